/- The document's reader: a block. The document's reader: a loop's block. -/
import Derived.Test.YtnnppenlfocgiaaGreatDoorK19
import Derived.Test.YtnnppenlfocgiaaGreatDoorK28
namespace Go.Proofs.YtnnppenlfocgiaaGreatDoor
open Go.RowKit
open Go

def DSt (f : Nat) : Prop := ∀ (r : PRes) (Fin : Nat → Prop) (g : Nd → List PT → PR) (B : Nat) (ts : List Tok) (i : Nat) (w : World), FinOK ts Fin r → Dr w B ts i false → (P f 8 nil0 0 (rest ts i)).on g = some r → Calls Tryz.prog 53 #[.pointer (some ⟨B, 0, none⟩)] w (NA no w B ts Fin r g)
def DBlk (f : Nat) : Prop := ∀ (r : PRes) (Fin : Nat → Prop) (g : Nd → List PT → PR) (B : Nat) (ts : List Tok) (i : Nat) (bad : Bool) (w : World), FinOK ts Fin r → Dr w B ts i bad → Fl ts Fin r i bad (fun l => (P f 7 (nd 4 []) 0 l).on g) → Calls Tryz.prog 32 #[.pointer (some ⟨B, 0, none⟩)] w (NA no w B ts Fin r g)
theorem res34 {tm : Array Value} {W : World} {B : Nat} {a b c d : Value} (h : tm[2]?.getD undef = .pointer (some ⟨B, 0, none⟩)) (hx : W.heap[B]? = some (.cells #[a, b, c, d] 24)) : (results Tryz.f32 tm).run Tryz.prog W = .ok (.agg #[a, b, c, d]) W := by
  obtain ⟨c0, c1, c2, c3, _, _, _, _⟩ := in4 hx
  simp [results, Tryz.results32, go_sem, h, c0, c1, c2, c3]
/-- Between two statements. -/
def BlI (f t : Nat) (w : World) (B : Nat) (ts : List Tok) (Fin : Nat → Prop) (r : PRes) (g : Nd → List PT → PR) (k : Nat) (wr : World) : Prop :=
  ∃ (ks : List Nd) (b : Option Addr) (cap j : Nat) (bad : Bool), wr.heap[t]? = some (nbx (nd 4 ks) b cap) ∧ wr.heap[w.heap.size]? = some zbx ∧ Row (fun q => w.heap.size < q ∧ q ≠ t) wr (.slice b ks.length cap) ks ∧ (∀ q, Value.ownBlock (.slice b ks.length cap) = some q → w.heap.size < q) ∧ Dr wr B ts j bad ∧ Keeps (fun k => k = B) w wr ∧ k ≤ f ∧ ks.length + k ≤ f ∧ Fl ts Fin r j bad (fun l => (P k 7 (nd 4 ks) 0 l).on g)
set_option maxRecDepth 20000 in
set_option maxHeartbeats 2000000 in
theorem dblock_of (f : Nat) (hf : f ≤ 90000) (hS : ∀ k, k < f → DSt k) : DBlk f := by
  intro r Fin g B ts i bad w hF hR hP
  obtain ⟨i0, hi0, hz0, hz1, hz2⟩ := info_parts info24
  have hBw := hR.lt
  have hb0 : Below w.heap.size w (w.alloc zbx) := ext_alloc (Below.refl _ _) _
  have h2 := alloc_new w zbx
  have hb1 := ext_alloc (Below.refl (w.alloc zbx).heap.size (w.alloc zbx)) (nbx (nd 4 []) none 0)
  have gt := alloc_new (w.alloc zbx) (nbx (nd 4 []) none 0)
  rw [World.size_alloc] at gt
  have hI : BlI f (w.heap.size + 1) w B ts Fin r g f ((w.alloc zbx).alloc (nbx (nd 4 []) none 0)) := ⟨[], none, 0, i, bad, gt, block_below hb1 h2, Row.nil _ _, fun q e => by simp [Value.ownBlock] at e, (hR.below hb0).below hb1, (Keeps.of_below hb0).trans (Keeps.of_below hb1), Nat.le_refl _, by simp, hP⟩
  obtain ⟨t, ht⟩ : ∃ t, w.heap.size + 1 = t := ⟨_, rfl⟩
  rw [ht] at hI
  have htw : w.heap.size < t := by omega
  clear hP hb1 gt
  go_enter Tryz.func32, Tryz.ntmps32
  go_wp2
  clear ht
  go_loopg [6] f (fun k _ wr => BlI f t w B ts Fin r g k wr)
  case atStart => exact hI
  case round =>
    obtain ⟨ks, b, cap, j, bad, p3, p2, hRow, hown, hR1, hk, hgf, hle, hFl⟩ := hrel
    clear hI
    have hz3 := block_lt p3
    have hz2' := block_lt p2
    obtain ⟨c0, c1, c2, c3, f0, f1, f2, f3⟩ := in4 p3
    obtain ⟨d0, d1, d2, d3, e0, e1, e2, e3⟩ := in4 p2
    obtain ⟨b', cap', s0, s1, s2, v1, v2⟩ := hR1.cells
    have hNw : NdV (fun q => (no q ∨ w.heap.size ≤ q) ∧ q ≠ w.heap.size) wr (nd 4 ks) (ndv (nd 4 ks) b cap) := (hRow.node 4 [] 0).weak (fun q hq _ => ⟨.inr (by omega), by omega⟩)
    rcases hFl with ⟨rfl, hFi⟩ | ⟨rfl, hP⟩
    · go_wp2
      refine bodyPost_ret (res34 rfl (put4_same _ _ _ _ p2)) rfl ?_
      exact na_close hNw hR1 hk (Nat.le_refl _) hBw (.inl ⟨rfl, hFi⟩)
    have hT := fun u (h : Dr u B ts j false) => text_any B ts j false u h
    rw [show txd ts j false = tx (rest ts j) from rfl] at hT
    cases gk with
    | zero => cases hP
    | succ k =>
    dsimp only at hP
    rw [P, ite_on] at hP
    by_cases he1 : tx (rest ts j) = W.end_
    · rw [if_pos (.inl he1)] at hP
      rw [he1] at hT
      clear he1
      go_wp2_with (go_at_call 30; refine (hT wr hR1).mono ?_; rintro e w2 ⟨rfl, hb2⟩; have q3 := block_below hb2 p3; have q2 := block_below hb2 p2; obtain ⟨c0, c1, c2, c3, f0, f1, f2, f3⟩ := in4 q3; obtain ⟨d0, d1, d2, d3, e0, e1, e2, e3⟩ := in4 q2)
      refine bodyPost_ret (res34 rfl (put4_same _ _ _ _ q2)) rfl ?_
      exact na_close (hNw.below hb2) (hR1.below hb2) (hk.trans (Keeps.of_below hb2)) (Nat.le_refl _) hBw (.inr ⟨rfl, hP⟩)
    have n1 : (tx (rest ts j) == [101, 110, 100]) = false := by simpa using he1
    by_cases he2 : tx (rest ts j) = W.else_
    · rw [if_pos (.inr he2)] at hP
      rw [he2] at hT
      clear he1 he2 n1
      go_wp2_with (first | (go_at_call 30; refine (hT wr hR1).mono ?_; rintro e w2 ⟨rfl, hb2⟩; have q3 := block_below hb2 p3; have q2 := block_below hb2 p2) | (go_at_call 30; refine (hT w2 (hR1.below hb2)).mono ?_; rintro e w3 ⟨rfl, hb3⟩; have hb23 := ext_trans hb2 hb3; have q33 := block_below hb3 q3; have q23 := block_below hb3 q2; obtain ⟨c0, c1, c2, c3, f0, f1, f2, f3⟩ := in4 q33; obtain ⟨d0, d1, d2, d3, e0, e1, e2, e3⟩ := in4 q23))
      refine bodyPost_ret (res34 rfl (put4_same _ _ _ _ q23)) rfl ?_
      exact na_close (hNw.below hb23) (hR1.below hb23) (hk.trans (Keeps.of_below hb23)) (Nat.le_refl _) hBw (.inr ⟨rfl, hP⟩)
    have n2 : (tx (rest ts j) == [101, 108, 115, 101]) = false := by simpa using he2
    rw [if_neg (by rintro (h | h); exact he1 h; exact he2 h), on_on] at hP
    obtain ⟨tt, htt⟩ : ∃ tt, tx (rest ts j) = tt := ⟨_, rfl⟩
    rw [htt] at hT n1 n2
    have hcall := fun u (hb : Below wr.heap.size wr u) => hS k (by omega) r Fin _ B ts j u hF (hR1.below hb) hP
    have hn1 : ks.length + 1 ≤ maxLen := by unfold maxLen; omega
    have hb1 : (ks.length + 1) * 56 ≤ 140737488355328 := by omega
    clear htt he1 he2 hP hS
    go_wp2_with (first | (go_at_call 30; refine (hT wr hR1).mono ?_; rintro e w2 ⟨rfl, hb2⟩) | (go_at_call 30; refine (hT w2 (hR1.below hb2)).mono ?_; rintro e w3 ⟨rfl, hb3⟩; have hb23 := ext_trans hb2 hb3) | (go_at_call 53; refine (hcall _ hb23).mono ?_; rintro e w4 ⟨x, bx, cx, j2, bad2, rfl, hN, hR4, hk4, hFl4⟩; refine Hid.out ?_))
    have hkA := (Keeps.of_below (S := fun q => q = B) hb23).trans hk4
    have q3 := hkA.box p3 (by omega)
    have q2 := hkA.box p2 (by omega)
    have hRow4 := hRow.keep hkA (fun q hq _ e => by omega)
    have hzA := hkA.size
    have hz3b := hb23.size
    have hb5 := ext_alloc (ext_alloc (Below.refl w4.heap.size w4) (nbx x bx cx)) (nbx x bx cx)
    have hnew := alloc_new (w4.alloc (nbx x bx cx)) (nbx x bx cx)
    rw [World.size_alloc] at hnew
    have q35 := block_below hb5 q3
    have q25 := block_below hb5 q2
    have hRow5 := hRow4.below hb5
    have hR5 := hR4.below hb5
    have hN5 := hN.below hb5
    have hk5 := (hk.trans hkA).trans (Keeps.of_below hb5)
    obtain ⟨_, _, _, hlt9⟩ := hRow.form
    obtain ⟨c0, c1, c2, c3, f0, f1, f2, f3⟩ := in4 q3
    obtain ⟨x0, x1, x2, x3, y0, y1, y2, y3⟩ := in4a q3
    clear hT hcall hRow4 hR4 hkA hk4 d0 d1 d2 d3 e0 e1 e2 e3 s0 s1 s2 v1 v2 hNw
    refine Lib.hid ?_
    go_wp2_with (at_builtin; refine Hid.out ?_)
    obtain ⟨W, hW⟩ : ∃ W, (w4.alloc (nbx x bx cx)).alloc (nbx x bx cx) = W := ⟨_, rfl⟩
    rw [hW] at hnew q35 q25 hRow5 hR5 hN5 hk5
    replace hW : (w4.alloc (.cells #[.int .i64 x.k, .string ⟨x.t.toArray⟩, .int .i64 x.n, .slice bx x.kids.length cx] 24)).alloc (.cells #[.int .i64 x.k, .string ⟨x.t.toArray⟩, .int .i64 x.n, .slice bx x.kids.length cx] 24) = W := hW
    rw [hW]
    obtain ⟨xs, ho, hs, hn⟩ := hRow5.own
    have hne3 : some t ≠ Value.ownBlock (.slice b ks.length cap) := fun e => (hs _ e.symm).2 rfl
    have hzW := block_lt hnew
    have hy : NdV (fun q => (w.heap.size < q ∧ q ≠ t) ∧ some q ≠ Value.ownBlock (.slice b ks.length cap)) W x (ndv x bx cx) := hN5.weak (fun q hq _ => by have := hq.resolve_left id; exact ⟨⟨by omega, by omega⟩, fun e => by have := (hlt9 q e.symm).2; omega⟩)
    clear hW hRow5 hN5 hN hRow c0 c1 c2 c3 f0 f1 f2 f3 x0 x1 x2 x3 y0 y1 y2 y3 q3 q2 hb5
    refine Lib.hid ?_
    go_wp2_with (at_builtin; refine wpList_append_lies _ (by rfl) _ _ _ (by rfl) 0 24 i0 _ 4 56 Tryz.underlying22 hi0 hz0 hz1 hz2 rfl (by omega) (.slice b ks.length cap) ks.length _ (by rfl) ho ⟨w4.heap.size + 1, 0, none⟩ 1 1 _ (by rfl) (by rfl) (cells_of x bx cx hnew) (by simp [Value.oneCell']) (by omega) hn1 hb1 (Nat.zero_le _) _ rfl ?_; intro g3 cap3 w5 hown1 hgrow hat1 hlt1; have p3w := (hgrow.block _ (block_lt q35) hne3).trans q35; obtain ⟨c0, c1, c2, c3, f0, f1, f2, f3⟩ := in4 p3w)
    obtain ⟨hRow6, g6, hk6, hown6⟩ := kids_step (lo := w.heap.size + 1) ho hs hn hy (fun q hq => hq.2) (fun q hq => ⟨by omega, by omega⟩) (fun q e => hown q e) (by omega) q35 hown1 hgrow hat1 rfl
    have z6 := hk6.box q25 (fun e => by rcases e with e | e; omega; have := (hs _ e.symm).1; omega)
    have hR6 := hR5.keep hk6 (fun q hq e => by rcases e with e | e; omega; have := hown q e.symm; omega)
    have hkw6 := hk5.then hk6 (fun q hq e => by rcases e with e | e; omega; have := hown q e.symm; omega)
    go_roundg k
    case measure => omega
    case rel => exact ⟨ks ++ [x], _, _, j2, bad2, g6, z6, hRow6, hown6, hR6, hkw6, by omega, by simp; omega, hFl4⟩
end Go.Proofs.YtnnppenlfocgiaaGreatDoor
namespace Go.Proofs.YtnnppenlfocgiaaGreatDoor
open Go.RowKit
open Go

theorem res99 {tm : Array Value} {W : World} {B : Nat} {a b c d : Value} (h : tm[4]?.getD undef = .pointer (some ⟨B, 0, none⟩)) (hx : W.heap[B]? = some (.cells #[a, b, c, d] 24)) : (results Tryz.f72 tm).run Tryz.prog W = .ok (.agg #[a, b, c, d]) W := by
  obtain ⟨c0, c1, c2, c3, _, _, _, _⟩ := in4 hx
  simp [results, Tryz.results72, go_sem, h, c0, c1, c2, c3]
/-- What it leaves. -/
def LpA (D : Nat → Prop) (w : World) (B : Nat) (ts : List Tok) (Fin : Nat → Prop) (r : PRes) (k : Int) (s : List UInt8) (g : List Nd → List PT → PR) (v : Value) (e : Ending) (w' : World) : Prop :=
  ∃ ks b cap j bad, e = .returned (ndv ⟨k, s, 0, ks⟩ b cap) ∧ NdV (fun q => D q ∨ w.heap.size ≤ q) w' ⟨k, s, 0, ks⟩ (ndv ⟨k, s, 0, ks⟩ b cap) ∧ Dr w' B ts j bad ∧ Keeps (fun q => q = B ∨ some q = v.ownBlock) w w' ∧ Fl ts Fin r j bad (g ks)
set_option maxRecDepth 20000 in
set_option maxHeartbeats 2000000 in
theorem dloop_of (f : Nat) (hK : DBlk f) (k : Int) (s : List UInt8) (ks : List Nd) (b : Option Addr) (cap : Nat) (D : Nat → Prop) (r : PRes) (Fin : Nat → Prop) (g : List Nd → List PT → PR) (B : Nat) (ts : List Tok) (i : Nat) (bad : Bool) (w : World) (hF : FinOK ts Fin r) (hR : Dr w B ts i bad) (hRow : Row D w (.slice b ks.length cap) ks) (hD : ∀ q, D q → q ≠ B) (hO : ∀ q, Value.ownBlock (.slice b ks.length cap) = some q → B < q) (hks : ks.length ≤ 100000) (hP : Fl ts Fin r i bad (fun l => need W.do_ l fun l => (P f 7 (nd 4 []) 0 l).on fun bk l => need W.end_ l fun l => g (ks ++ [bk]) l)) : Calls Tryz.prog 72 #[.pointer (some ⟨B, 0, none⟩), ndv ⟨k, s, 0, ks⟩ b cap] w (LpA D w B ts Fin r k s g (.slice b ks.length cap)) := by
  obtain ⟨i0, hi0, hz0, hz1, hz2⟩ := info_parts info24
  obtain ⟨h3, h4⟩ := new2 w (nbx ⟨k, s, 0, ks⟩ b cap) zbx
  have hb0 := below2 w (nbx ⟨k, s, 0, ks⟩ b cap) zbx
  have hBw := hR.lt
  have hM := must_any (s := W.do_) (by decide) hF hP _ (hR.below hb0)
  have hn1 : ks.length + 1 ≤ maxLen := by unfold maxLen; omega
  have hb1 : (ks.length + 1) * 56 ≤ 140737488355328 := by omega
  clear hP
  go_enter Tryz.func72, Tryz.ntmps72
  go_wp2_with (first | (go_at_call 28; refine hM.mono ?_; rintro e w1 ⟨rfl, j1, bad1, hR1, hk1, hFl1⟩) | (go_at_call 32; refine (hK r Fin _ B ts j1 bad1 _ hF hR1 hFl1).mono ?_; rintro e w4 ⟨x, bx, cx, j2, bad2, rfl, hN, hR4, hk4, hFl4⟩; refine Hid.out ?_))
  have hkA := hk1.trans hk4
  have q3 := hkA.box h3 (by omega)
  have q2 := hkA.box h4 (by omega)
  have hz1' := hk1.size
  have hzA := hk4.size
  have hzq := block_lt h4
  obtain ⟨_, _, _, hlt9⟩ := hRow.form
  have hRow4 : Row (fun q => (D q ∧ q < w.heap.size) ∨ w.heap.size + 1 < q) w4 (.slice b ks.length cap) ks := (((hRow.weak (S' := fun q => D q ∧ q < w.heap.size) (fun q hq hlt => ⟨hq, hlt⟩)).below hb0).keep hkA (fun q hq _ e => hD q hq.1 e)).weak (fun q hq _ => .inl hq)
  have hb5 := ext_alloc (ext_alloc (Below.refl w4.heap.size w4) (nbx x bx cx)) (nbx x bx cx)
  have hnew := alloc_new (w4.alloc (nbx x bx cx)) (nbx x bx cx)
  rw [World.size_alloc] at hnew
  have q35 := block_below hb5 q3
  have q25 := block_below hb5 q2
  have hRow5 := hRow4.below hb5
  have hR5 := hR4.below hb5
  have hN5 := hN.below hb5
  have hk5 := ((Keeps.of_below (S := fun q => q = B) hb0).trans hkA).trans (Keeps.of_below hb5)
  obtain ⟨c0, c1, c2, c3, f0, f1, f2, f3⟩ := in4 q3
  obtain ⟨x0, x1, x2, x3, y0, y1, y2, y3⟩ := in4a q3
  clear hM hK hRow4 hR4 hkA hk4 hFl1 hR1 hk1 h3 h4
  refine Lib.hid ?_
  go_wp2_with (at_builtin; refine Hid.out ?_)
  obtain ⟨W, hW⟩ : ∃ W, (w4.alloc (nbx x bx cx)).alloc (nbx x bx cx) = W := ⟨_, rfl⟩
  rw [hW] at hnew q35 q25 hRow5 hR5 hN5 hk5
  replace hW : (w4.alloc (.cells #[.int .i64 x.k, .string ⟨x.t.toArray⟩, .int .i64 x.n, .slice bx x.kids.length cx] 24)).alloc (.cells #[.int .i64 x.k, .string ⟨x.t.toArray⟩, .int .i64 x.n, .slice bx x.kids.length cx] 24) = W := hW
  rw [hW]
  obtain ⟨xs, ho, hs, hn⟩ := hRow5.own
  have hne3 : some w.heap.size ≠ Value.ownBlock (.slice b ks.length cap) := fun e => by have := (hlt9 _ e.symm).2; omega
  have hzW := block_lt hnew
  have hy : NdV (fun q => ((D q ∧ q < w.heap.size) ∨ w.heap.size + 1 < q) ∧ some q ≠ Value.ownBlock (.slice b ks.length cap)) W x (ndv x bx cx) := hN5.weak (fun q hq _ => by have := hq.resolve_left id; exact ⟨.inr (by omega), fun e => by have := (hlt9 q e.symm).2; omega⟩)
  clear hW hRow5 hN5 hN hRow c0 c1 c2 c3 f0 f1 f2 f3 x0 x1 x2 x3 y0 y1 y2 y3 q3 q2 hb5
  refine Lib.hid ?_
  go_wp2_with (first | (at_builtin; refine wpList_append_lies _ (by rfl) _ _ _ (by rfl) 0 24 i0 _ 4 56 Tryz.underlying22 hi0 hz0 hz1 hz2 rfl (by omega) (.slice b ks.length cap) ks.length _ (by rfl) ho ⟨w4.heap.size + 1, 0, none⟩ 1 1 _ (by rfl) (by rfl) (cells_of x bx cx hnew) (by simp [Value.oneCell']) (by omega) hn1 hb1 (Nat.zero_le _) _ rfl ?_; intro g3 cap3 w5 hown1 hgrow hat1 hlt1; have p3w := (hgrow.block _ (block_lt q35) hne3).trans q35; obtain ⟨c0, c1, c2, c3, f0, f1, f2, f3⟩ := in4 p3w) | (go_at_call 28; refine Hid.out ?_))
  obtain ⟨W4, hW4⟩ : ∃ W, w5.setCell ⟨w.heap.size, 3, none⟩ (.slice (some ⟨g3, 0, none⟩) (ks.length + 1) cap3) = W := ⟨_, rfl⟩
  obtain ⟨hRow6, g6, hk6, hown6⟩ := kids_step (lo := 0) ho hs hn hy (fun q hq => by omega) (fun q hq => .inr (by omega)) (fun q e => Nat.zero_le _) (Nat.zero_le _) q35 hown1 hgrow hat1 hW4
  have z6 := hk6.box q25 (fun e => by rcases e with e | e; omega; have := (hlt9 _ e.symm).2; omega)
  have hR6 := hR5.keep hk6 (fun q hq e => by rcases e with e | e; omega; have := hO q e.symm; omega)
  have hkw6 : Keeps (fun q => q = B ∨ some q = Value.ownBlock (.slice b ks.length cap)) w W4 := (hk5.mono (fun q _ e => .inl e)).then hk6 (fun q hq e => by rcases e with e | e; omega; exact .inr e)
  have hM2 := must_any (s := [101, 110, 100]) (by decide) hF hFl4 W4 hR6
  rw [hW4]
  clear hW4 hown1 hgrow hat1 hlt1 ho hs hn hy hk6 hR5 hk5 q35 q25 c0 c1 c2 c3 f0 f1 f2 f3 p3w hR6
  refine Lib.hid ?_
  refine hM2.mono ?_
  rintro e wf ⟨rfl, j5, bad5, hRf, hkf, hFlf⟩
  have gf := hkf.box g6 (by omega)
  have zf := hkf.box z6 (by omega)
  obtain ⟨c0, c1, c2, c3, f0, f1, f2, f3⟩ := in4 gf
  obtain ⟨d0, d1, d2, d3, e0, e1, e2, e3⟩ := in4 zf
  have hNf := (hRow6.keep hkf (fun q hq _ e => by subst e; rcases hq with hq | hq; exact hD q hq.1 rfl; omega)).node k s 0
  go_wp2
  refine bodyPost_ret (res99 rfl (put4_same _ _ _ _ zf)) rfl ?_
  rw [show ks.length + 1 = (ks ++ [x]).length by simp]
  refine ⟨ks ++ [x], _, cap3, j5, bad5, rfl, (hNf.put4 _ _ _ _ _ (fun q hq => by omega)).weak (fun q hq _ => by rcases hq with hq | hq; exact .inl hq.1; exact .inr (by omega)), hRf.put4 _ _ _ _ _ (by omega), ?_, hFlf⟩
  exact put4_keeps (hkw6.then hkf (fun q hq e => .inl e)) _ _ _ _ _ (by omega)
end Go.Proofs.YtnnppenlfocgiaaGreatDoor
