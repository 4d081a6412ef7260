/- The document's reader: a loop's block. -/
import Derived.Test.YtbofdfdmikhanaaGreatDoorJ22
namespace Go.Proofs.YtbofdfdmikhanaaGreatDoor
open Go.RowKit
open Go

theorem res99 {tm : Array Value} {W : World} {B : Nat} {a b c d : Value} (h : tm[4]?.getD undef = .pointer (some ⟨B, 0, none⟩)) (hx : W.heap[B]? = some (.cells #[a, b, c, d] 24)) : (results Tryz.f99 tm).run Tryz.prog W = .ok (.agg #[a, b, c, d]) W := by
  obtain ⟨c0, c1, c2, c3, _, _, _, _⟩ := in4 hx
  simp [results, Tryz.results99, go_sem, h, c0, c1, c2, c3]
/-- What it leaves. -/
def LpA (D : Nat → Prop) (w : World) (B : Nat) (ts : List Tok) (Fin : Nat → Prop) (r : PRes) (k : Int) (s : List UInt8) (g : List Nd → List PT → PR) (v : Value) (e : Ending) (w' : World) : Prop :=
  ∃ ks b cap j bad, e = .returned (ndv ⟨k, s, 0, ks⟩ b cap) ∧ NdV (fun q => D q ∨ w.heap.size ≤ q) w' ⟨k, s, 0, ks⟩ (ndv ⟨k, s, 0, ks⟩ b cap) ∧ Dr w' B ts j bad ∧ Keeps (fun q => q = B ∨ some q = v.ownBlock) w w' ∧ Fl ts Fin r j bad (g ks)
set_option maxRecDepth 20000 in
set_option maxHeartbeats 2000000 in
theorem dloop_of (f : Nat) (hK : DBlk f) (k : Int) (s : List UInt8) (ks : List Nd) (b : Option Addr) (cap : Nat) (D : Nat → Prop) (r : PRes) (Fin : Nat → Prop) (g : List Nd → List PT → PR) (B : Nat) (ts : List Tok) (i : Nat) (bad : Bool) (w : World) (hF : FinOK ts Fin r) (hR : Dr w B ts i bad) (hRow : Row D w (.slice b ks.length cap) ks) (hD : ∀ q, D q → q ≠ B) (hO : ∀ q, Value.ownBlock (.slice b ks.length cap) = some q → B < q) (hks : ks.length ≤ 100000) (hP : Fl ts Fin r i bad (fun l => need W.do_ l fun l => (P f 7 (nd 4 []) 0 l).on fun bk l => need W.end_ l fun l => g (ks ++ [bk]) l)) : Calls Tryz.prog 99 #[.pointer (some ⟨B, 0, none⟩), ndv ⟨k, s, 0, ks⟩ b cap] w (LpA D w B ts Fin r k s g (.slice b ks.length cap)) := by
  obtain ⟨i0, hi0, hz0, hz1, hz2⟩ := info_parts info24
  obtain ⟨h3, h4⟩ := new2 w (nbx ⟨k, s, 0, ks⟩ b cap) zbx
  have hb0 := below2 w (nbx ⟨k, s, 0, ks⟩ b cap) zbx
  have hBw := hR.lt
  have hM := must_any (s := W.do_) (by decide) hF hP _ (hR.below hb0)
  have hn1 : ks.length + 1 ≤ maxLen := by unfold maxLen; omega
  have hb1 : (ks.length + 1) * 56 ≤ 140737488355328 := by omega
  clear hP
  go_enter Tryz.func99, Tryz.ntmps99
  go_wp2_with (first | (go_at_call 30; refine hM.mono ?_; rintro e w1 ⟨rfl, j1, bad1, hR1, hk1, hFl1⟩) | (go_at_call 34; refine (hK r Fin _ B ts j1 bad1 _ hF hR1 hFl1).mono ?_; rintro e w4 ⟨x, bx, cx, j2, bad2, rfl, hN, hR4, hk4, hFl4⟩; refine Hid.out ?_))
  have hkA := hk1.trans hk4
  have q3 := hkA.box h3 (by omega)
  have q2 := hkA.box h4 (by omega)
  have hz1' := hk1.size
  have hzA := hk4.size
  have hzq := block_lt h4
  obtain ⟨_, _, _, hlt9⟩ := hRow.form
  have hRow4 : Row (fun q => (D q ∧ q < w.heap.size) ∨ w.heap.size + 1 < q) w4 (.slice b ks.length cap) ks := (((hRow.weak (S' := fun q => D q ∧ q < w.heap.size) (fun q hq hlt => ⟨hq, hlt⟩)).below hb0).keep hkA (fun q hq _ e => hD q hq.1 e)).weak (fun q hq _ => .inl hq)
  have hb5 := ext_alloc (ext_alloc (Below.refl w4.heap.size w4) (nbx x bx cx)) (nbx x bx cx)
  have hnew := alloc_new (w4.alloc (nbx x bx cx)) (nbx x bx cx)
  rw [World.size_alloc] at hnew
  have q35 := block_below hb5 q3
  have q25 := block_below hb5 q2
  have hRow5 := hRow4.below hb5
  have hR5 := hR4.below hb5
  have hN5 := hN.below hb5
  have hk5 := ((Keeps.of_below (S := fun q => q = B) hb0).trans hkA).trans (Keeps.of_below hb5)
  obtain ⟨c0, c1, c2, c3, f0, f1, f2, f3⟩ := in4 q3
  obtain ⟨x0, x1, x2, x3, y0, y1, y2, y3⟩ := in4a q3
  clear hM hK hRow4 hR4 hkA hk4 hFl1 hR1 hk1 h3 h4
  refine Lib.hid ?_
  go_wp2_with (at_builtin; refine Hid.out ?_)
  obtain ⟨W, hW⟩ : ∃ W, (w4.alloc (nbx x bx cx)).alloc (nbx x bx cx) = W := ⟨_, rfl⟩
  rw [hW] at hnew q35 q25 hRow5 hR5 hN5 hk5
  replace hW : (w4.alloc (.cells #[.int .i64 x.k, .string ⟨x.t.toArray⟩, .int .i64 x.n, .slice bx x.kids.length cx] 24)).alloc (.cells #[.int .i64 x.k, .string ⟨x.t.toArray⟩, .int .i64 x.n, .slice bx x.kids.length cx] 24) = W := hW
  rw [hW]
  obtain ⟨xs, ho, hs, hn⟩ := hRow5.own
  have hne3 : some w.heap.size ≠ Value.ownBlock (.slice b ks.length cap) := fun e => by have := (hlt9 _ e.symm).2; omega
  have hzW := block_lt hnew
  have hy : NdV (fun q => ((D q ∧ q < w.heap.size) ∨ w.heap.size + 1 < q) ∧ some q ≠ Value.ownBlock (.slice b ks.length cap)) W x (ndv x bx cx) := hN5.weak (fun q hq _ => by have := hq.resolve_left id; exact ⟨.inr (by omega), fun e => by have := (hlt9 q e.symm).2; omega⟩)
  clear hW hRow5 hN5 hN hRow c0 c1 c2 c3 f0 f1 f2 f3 x0 x1 x2 x3 y0 y1 y2 y3 q3 q2 hb5
  refine Lib.hid ?_
  go_wp2_with (first | (at_builtin; refine wpList_append_lies _ (by rfl) _ _ _ (by rfl) 0 24 i0 _ 4 56 Tryz.underlying22 hi0 hz0 hz1 hz2 rfl (by omega) (.slice b ks.length cap) ks.length _ (by rfl) ho ⟨w4.heap.size + 1, 0, none⟩ 1 1 _ (by rfl) (by rfl) (cells_of x bx cx hnew) (by simp [Value.oneCell']) (by omega) hn1 hb1 (Nat.zero_le _) _ rfl ?_; intro g3 cap3 w5 hown1 hgrow hat1 hlt1; have p3w := (hgrow.block _ (block_lt q35) hne3).trans q35; obtain ⟨c0, c1, c2, c3, f0, f1, f2, f3⟩ := in4 p3w) | (go_at_call 30; refine Hid.out ?_))
  obtain ⟨W4, hW4⟩ : ∃ W, w5.setCell ⟨w.heap.size, 3, none⟩ (.slice (some ⟨g3, 0, none⟩) (ks.length + 1) cap3) = W := ⟨_, rfl⟩
  obtain ⟨hRow6, g6, hk6, hown6⟩ := kids_step (lo := 0) ho hs hn hy (fun q hq => by omega) (fun q hq => .inr (by omega)) (fun q e => Nat.zero_le _) (Nat.zero_le _) q35 hown1 hgrow hat1 hW4
  have z6 := hk6.box q25 (fun e => by rcases e with e | e; omega; have := (hlt9 _ e.symm).2; omega)
  have hR6 := hR5.keep hk6 (fun q hq e => by rcases e with e | e; omega; have := hO q e.symm; omega)
  have hkw6 : Keeps (fun q => q = B ∨ some q = Value.ownBlock (.slice b ks.length cap)) w W4 := (hk5.mono (fun q _ e => .inl e)).then hk6 (fun q hq e => by rcases e with e | e; omega; exact .inr e)
  have hM2 := must_any (s := [101, 110, 100]) (by decide) hF hFl4 W4 hR6
  rw [hW4]
  clear hW4 hown1 hgrow hat1 hlt1 ho hs hn hy hk6 hR5 hk5 q35 q25 c0 c1 c2 c3 f0 f1 f2 f3 p3w hR6
  refine Lib.hid ?_
  refine hM2.mono ?_
  rintro e wf ⟨rfl, j5, bad5, hRf, hkf, hFlf⟩
  have gf := hkf.box g6 (by omega)
  have zf := hkf.box z6 (by omega)
  obtain ⟨c0, c1, c2, c3, f0, f1, f2, f3⟩ := in4 gf
  obtain ⟨d0, d1, d2, d3, e0, e1, e2, e3⟩ := in4 zf
  have hNf := (hRow6.keep hkf (fun q hq _ e => by subst e; rcases hq with hq | hq; exact hD q hq.1 rfl; omega)).node k s 0
  go_wp2
  refine bodyPost_ret (res99 rfl (put4_same _ _ _ _ zf)) rfl ?_
  rw [show ks.length + 1 = (ks ++ [x]).length by simp]
  refine ⟨ks ++ [x], _, cap3, j5, bad5, rfl, (hNf.put4 _ _ _ _ _ (fun q hq => by omega)).weak (fun q hq _ => by rcases hq with hq | hq; exact .inl hq.1; exact .inr (by omega)), hRf.put4 _ _ _ _ _ (by omega), ?_, hFlf⟩
  exact put4_keeps (hkw6.then hkf (fun q hq e => .inl e)) _ _ _ _ _ (by omega)
end Go.Proofs.YtbofdfdmikhanaaGreatDoor
