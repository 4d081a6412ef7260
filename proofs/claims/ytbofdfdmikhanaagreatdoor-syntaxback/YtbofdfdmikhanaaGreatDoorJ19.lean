/- The document's reader: one expression more. The document's reader: how closely. The program's reader: what stands behind; signs ahead; rows. -/
import Derived.Test.YtbofdfdmikhanaaGreatDoorJ18
import Derived.OwnWalk
import Derived.Deep.LoopGhost
namespace Go.Proofs.YtbofdfdmikhanaaGreatDoor
open Go.RowKit
open Go

/-- What is known of a row that has grown, or has not. -/
structure EX (D : Nat → Prop) (w : World) (B : Nat) (ts : List Tok) (Fin : Nat → Prop) (r : PRes) (g : Nd → List PT → PR) (ks : List Nd) (v : Value) (e : Ending) (w' : World) : Prop where
  out : ∃ ks' b' cap' j bad, e = .returned (.slice b' ks'.length cap') ∧ Row (fun q => D q ∨ w.heap.size ≤ q) w' (.slice b' ks'.length cap') ks' ∧ Dr w' B ts j bad ∧ ks'.length ≤ ks.length + 1 ∧ (∀ q, Value.ownBlock (.slice b' ks'.length cap') = some q → some q = v.ownBlock ∨ w.heap.size ≤ q) ∧ ((bad = true ∧ Fin j) ∨ (bad = false ∧ ∃ x, ks' = ks ++ [x] ∧ g x (rest ts j) = some r))
  K : Keeps (fun q => q = B ∨ some q = v.ownBlock) w w'
set_option maxRecDepth 20000 in
set_option maxHeartbeats 1000000 in
theorem exprs_bad (B : Nat) (ts : List Tok) (i : Nat) (b : Option Addr) (n cap : Nat) (w : World) (hR : Dr w B ts i true) : Calls Tryz.prog 98 #[.pointer (some ⟨B, 0, none⟩), .slice b n cap] w fun e w' => e = .returned (.slice b n cap) ∧ Below w.heap.size w w' := by
  obtain ⟨b', cap', c0, c1, c2, f1, f2⟩ := hR.cells
  go_enter Tryz.func98, Tryz.ntmps98
  go_wp2
  go_ret
  exact ⟨rfl, Below.refl _ _⟩
set_option maxRecDepth 20000 in
set_option maxHeartbeats 2000000 in
theorem exprs_go (f : Nat) (hE : DRow f) (ks : List Nd) (b : Option Addr) (cap : Nat) (D : Nat → Prop) (r : PRes) (Fin : Nat → Prop) (g : Nd → List PT → PR) (B : Nat) (ts : List Tok) (i : Nat) (w : World) (hF : FinOK ts Fin r) (hR : Dr w B ts i false) (hRow : Row D w (.slice b ks.length cap) ks) (hD : ∀ q, D q → q ≠ B) (hO : ∀ q, Value.ownBlock (.slice b ks.length cap) = some q → B < q) (hk : ks.length ≤ 100000) (hP : (P f 0 nil0 0 (rest ts i)).on g = some r) : Calls Tryz.prog 98 #[.pointer (some ⟨B, 0, none⟩), .slice b ks.length cap] w (EX D w B ts Fin r g ks (.slice b ks.length cap)) := by
  obtain ⟨i0, hi0, hz0, hz1, hz2⟩ := info_parts info24
  have hc := hE 0 r Fin g B ts i w (by omega) hF hR hP
  have hBw := hR.lt
  obtain ⟨b', cap', c0, c1, c2, f1, f2⟩ := hR.cells
  have hn1 : ks.length + 1 ≤ maxLen := by unfold maxLen; omega
  have hb1 : (ks.length + 1) * 56 ≤ 140737488355328 := by omega
  clear hE hP
  go_enter Tryz.func98, Tryz.ntmps98
  go_wp2_with (first | (go_at_call 116; refine hc.mono ?_; rintro e w1 ⟨x, bx, cx, j, bad, rfl, hN, hR1, hk1, hFl⟩) | (at_builtin; refine Hid.out ?_))
  have hRow1 : Row (fun q => D q ∨ w.heap.size ≤ q) w1 (.slice b ks.length cap) ks := (hRow.keep hk1 (fun q hq _ e => hD q hq e)).weak (fun q hq _ => .inl hq)
  have hb2 := ext_alloc (ext_alloc (Below.refl w1.heap.size w1) (nbx x bx cx)) (nbx x bx cx)
  have hnew := alloc_new (w1.alloc (nbx x bx cx)) (nbx x bx cx)
  rw [World.size_alloc] at hnew
  have hRow2 := hRow1.below hb2
  have hR2 := hR1.below hb2
  have hN2 := hN.below hb2
  have hk2 := hk1.trans (Keeps.of_below hb2)
  obtain ⟨W, hW⟩ : ∃ W, (w1.alloc (nbx x bx cx)).alloc (nbx x bx cx) = W := ⟨_, rfl⟩
  rw [hW] at hnew hRow2 hR2 hN2 hk2
  obtain ⟨_, _, _, hlt9⟩ := hRow.form
  obtain ⟨xs, ho, hs, hn⟩ := hRow2.own
  have hy : NdV (fun q => (D q ∨ w.heap.size ≤ q) ∧ some q ≠ Value.ownBlock (.slice b ks.length cap)) W x (ndv x bx cx) := hN2.weak (fun q hq _ => ⟨.inr (hq.resolve_left id), fun e => by have := (hlt9 q e.symm).2; have := hq.resolve_left id; omega⟩)
  have hzW : w.heap.size ≤ W.heap.size := hk2.size
  replace hW : (w1.alloc (.cells #[.int .i64 x.k, .string ⟨x.t.toArray⟩, .int .i64 x.n, .slice bx x.kids.length cx] 24)).alloc (.cells #[.int .i64 x.k, .string ⟨x.t.toArray⟩, .int .i64 x.n, .slice bx x.kids.length cx] 24) = W := hW
  rw [hW]
  clear hW hRow1 hb2 hc hN hR1 hk1 c0 c1 c2 f1 f2 hRow hRow2 hN2
  refine Lib.hid ?_
  go_wp2_with (at_builtin; refine wpList_append_lies _ (by rfl) _ _ _ (by rfl) 0 24 i0 _ 4 56 Tryz.underlying22 hi0 hz0 hz1 hz2 rfl (by omega) (.slice b ks.length cap) ks.length _ (by rfl) ho ⟨w1.heap.size + 1, 0, none⟩ 1 1 _ (by rfl) (by rfl) (cells_of x bx cx hnew) (by simp [Value.oneCell']) (by omega) hn1 hb1 (Nat.zero_le _) _ rfl ?_; intro g3 cap3 w5 hown1 hgrow hat1 hlt1)
  have hS5 := Row.snoc ho hs hn hy hown1 hgrow hat1 (fun q hq => .inr (by omega))
  have hkG := Keeps.grown hgrow
  go_ret
  refine ⟨⟨ks ++ [x], some ⟨g3, 0, none⟩, cap3, j, bad, by simp, by simpa using hS5, hR2.keep hkG (fun q hq e => by have := hO q e.symm; omega), by simp, fun q e => ?_, ?_⟩, (hk2.mono (fun q _ e => .inl e)).then hkG (fun q _ e => .inr e)⟩
  · have e3 : g3 = q := by simpa [Value.ownBlock] using e
    subst e3
    rcases hat1 with e | e
    · exact .inl e.symm
    · exact .inr (by omega)
  · rcases hFl with h | ⟨h1, h2⟩
    · exact .inl h
    · exact .inr ⟨h1, x, rfl, h2⟩
theorem exprs_any (f : Nat) (hE : DRow f) (ks : List Nd) (b : Option Addr) (cap : Nat) (D : Nat → Prop) (r : PRes) (Fin : Nat → Prop) (g : Nd → List PT → PR) (B : Nat) (ts : List Tok) (i : Nat) (bad : Bool) (w : World) (hF : FinOK ts Fin r) (hR : Dr w B ts i bad) (hRow : Row D w (.slice b ks.length cap) ks) (hD : ∀ q, D q → q ≠ B) (hO : ∀ q, Value.ownBlock (.slice b ks.length cap) = some q → B < q) (hk : ks.length ≤ 100000) (hP : Fl ts Fin r i bad (fun l => (P f 0 nil0 0 l).on g)) : Calls Tryz.prog 98 #[.pointer (some ⟨B, 0, none⟩), .slice b ks.length cap] w (EX D w B ts Fin r g ks (.slice b ks.length cap)) := by
  rcases hP with ⟨rfl, hFi⟩ | ⟨rfl, hP⟩
  · refine (exprs_bad B ts i b ks.length cap w hR).mono ?_
    rintro e w1 ⟨rfl, hb⟩
    exact ⟨⟨ks, b, cap, i, true, rfl, (hRow.below hb).weak (fun q hq _ => .inl hq), hR.below hb, by omega, fun q e => .inl e.symm, .inl ⟨rfl, hFi⟩⟩, Keeps.of_below hb⟩
  · exact exprs_go f hE ks b cap D r Fin g B ts i w hF hR hRow hD hO hk hP
theorem on_on {x : PR} {h g : Nd → List PT → PR} : (x.on h).on g = x.on (fun n l => (h n l).on g) := by
  unfold PR.on
  match x with
  | none => rfl
  | some (.inl l) => rfl
  | some (.inr (n, l)) => rfl
theorem need_on {s : List UInt8} {l : List PT} {h : List PT → PR} {g : Nd → List PT → PR} : (need s l h).on g = need s l (fun l => (h l).on g) := by
  unfold need
  split
  · rfl
  · rfl
theorem ite_on {c : Prop} [Decidable c] {x y : PR} {g : Nd → List PT → PR} : (if c then x else y).on g = if c then x.on g else y.on g := by
  split
  · rfl
  · rfl
theorem ok_on {n : Nd} {l : List PT} {g : Nd → List PT → PR} : (PR.ok n l).on g = g n l := rfl
end Go.Proofs.YtbofdfdmikhanaaGreatDoor
namespace Go.Proofs.YtbofdfdmikhanaaGreatDoor
open Go.RowKit
open Go

theorem res116 {tm : Array Value} {W : World} {B : Nat} {a b c d : Value} (h : tm[4]?.getD undef = .pointer (some ⟨B, 0, none⟩)) (hx : W.heap[B]? = some (.cells #[a, b, c, d] 24)) : (results Tryz.f116 tm).run Tryz.prog W = .ok (.agg #[a, b, c, d]) W := by
  obtain ⟨c0, c1, c2, c3, _, _, _, _⟩ := in4 hx
  simp [results, Tryz.results116, go_sem, h, c0, c1, c2, c3]
/-- The answer's box is written. -/
theorem na_close {w W : World} {B : Nat} {ts : List Tok} {Fin : Nat → Prop} {r : PRes} {g : Nd → List PT → PR} {x : Nd} {b : Option Addr} {cap j t : Nat} {bad : Bool} {D : Nat → Prop} (hN : NdV (fun q => (D q ∨ w.heap.size ≤ q) ∧ q ≠ t) W x (ndv x b cap)) (hR : Dr W B ts j bad) (hk : Keeps (fun k => k = B) w W) (ht : w.heap.size ≤ t) (hB : B < w.heap.size) (hFl : Fl ts Fin r j bad (g x)) :
    NA D w B ts Fin r g (.returned (ndv x b cap)) (put4 W t (.int .i64 x.k) (sk x.t) (.int .i64 x.n) (.slice b x.kids.length cap)) :=
  ⟨x, b, cap, j, bad, rfl, (hN.put4 _ _ _ _ _ (fun q hq => hq.2)).weak (fun q hq _ => hq.1), hR.put4 _ _ _ _ _ (by omega), put4_keeps hk _ _ _ _ _ ht, hFl⟩
set_option maxRecDepth 20000 in
set_option maxHeartbeats 1000000 in
theorem bound_un (f : Nat) (hU : DUn f) (r : PRes) (Fin : Nat → Prop) (g : Nd → List PT → PR) (B : Nat) (ts : List Tok) (i : Nat) (w : World) (hF : FinOK ts Fin r) (hR : Dr w B ts i false) (hP : (P f 1 nil0 0 (rest ts i)).on g = some r) : Calls Tryz.prog 116 #[.pointer (some ⟨B, 0, none⟩), .int .i64 6] w (NA no w B ts Fin r g) := by
  have hb0 : Below w.heap.size w (w.alloc zbx) := ext_alloc (Below.refl _ _) _
  have h2 := alloc_new w zbx
  have hBw := hR.lt
  have hc := hU r Fin g B ts i _ hF (hR.below hb0) hP
  go_enter Tryz.func116, Tryz.ntmps116
  go_wp2_with (go_at_call 143; refine hc.mono ?_; rintro e w1 ⟨x, b, cap, j, bad, rfl, hN, hR1, hk1, hFl⟩; have g2 := hk1.box h2 (by omega); obtain ⟨c0, c1, c2, c3, f0, f1, f2, f3⟩ := in4 g2)
  refine bodyPost_ret (res116 rfl (put4_same _ _ _ _ g2)) rfl ?_
  exact na_close (hN.weak (fun q hq _ => by simp at hq; exact ⟨.inr (by omega), by omega⟩)) hR1 ((Keeps.of_below hb0).trans hk1) (Nat.le_refl _) hBw hFl
/-- Between two signs. -/
def BndI (f t a : Nat) (w : World) (B : Nat) (ts : List Tok) (Fin : Nat → Prop) (r : PRes) (g : Nd → List PT → PR) (k : Nat) (wr : World) : Prop :=
  ∃ (x : Nd) (b : Option Addr) (cap j : Nat) (bad : Bool), wr.heap[t]? = some (nbx x b cap) ∧ wr.heap[w.heap.size]? = some zbx ∧ NdV (fun q => w.heap.size < q ∧ q ≠ t) wr x (ndv x b cap) ∧ Dr wr B ts j bad ∧ Keeps (fun k => k = B) w wr ∧ k ≤ f ∧ Fl ts Fin r j bad (fun l => (P k 2 x a l).on g)
set_option maxRecDepth 20000 in
set_option maxHeartbeats 2000000 in
theorem bound_ops (f : Nat) (hG : ∀ k, k ≤ f → DRow k) (a : Nat) (ha : a ≤ 5) (r : PRes) (Fin : Nat → Prop) (g : Nd → List PT → PR) (B : Nat) (ts : List Tok) (i : Nat) (w : World) (hF : FinOK ts Fin r) (hR : Dr w B ts i false) (hP : (P f 0 nil0 (a + 1) (rest ts i)).on (fun n l => (P f 2 n a l).on g) = some r) : Calls Tryz.prog 116 #[.pointer (some ⟨B, 0, none⟩), .int .i64 (a : Nat)] w (NA no w B ts Fin r g) := by
  have hb0 : Below w.heap.size w (w.alloc zbx) := ext_alloc (Below.refl _ _) _
  have h2 := alloc_new w zbx
  have hBw := hR.lt
  have hc := hG f (Nat.le_refl _) (a + 1) r Fin _ B ts i _ (by omega) hF (hR.below hb0) hP
  rw [show ((a + 1 : Nat) : Int) = (a : Int) + 1 by omega] at hc
  have ha' : ¬ (5 : Int) < (a : Int) := by omega
  go_enter Tryz.func116, Tryz.ntmps116
  go_wp2_with (go_at_call 116; refine hc.mono ?_; rintro e w1 ⟨x, b, cap, j, bad, rfl, hN, hR1, hk1, hFl⟩; refine Hid.out ?_)
  have g2 := hk1.box h2 (by omega)
  have hz1 := block_lt g2
  have hb1 := ext_alloc (Below.refl w1.heap.size w1) (nbx x b cap)
  have gt := alloc_new w1 (nbx x b cap)
  have hI : BndI f w1.heap.size a w B ts Fin r g f (w1.alloc (nbx x b cap)) := ⟨x, b, cap, j, bad, gt, block_below hb1 g2, (hN.weak (fun q hq hlt => by simp at hq; exact ⟨by omega, by omega⟩)).below hb1, hR1.below hb1, ((Keeps.of_below hb0).trans hk1).trans (Keeps.of_below hb1), Nat.le_refl _, hFl⟩
  obtain ⟨t, ht⟩ : ∃ t, w1.heap.size = t := ⟨_, rfl⟩
  rw [ht] at hI hz1
  clear hc hP h2 hN hR1 hk1 hFl g2 hb1 gt hb0
  refine Lib.hid ?_
  go_wp2
  clear ht
  go_loopg [6] f (fun k _ wr => BndI f t a w B ts Fin r g k wr)
  case atStart => exact hI
  case round =>
    obtain ⟨x, b, cap, j, bad, p3, p2, hN, hR1, hk, hgf, hFl⟩ := hrel
    clear hI
    have hz3 := block_lt p3
    have hz2 := block_lt p2
    obtain ⟨c0, c1, c2, c3, f0, f1, f2, f3⟩ := in4 p3
    obtain ⟨d0, d1, d2, d3, e0, e1, e2, e3⟩ := in4 p2
    obtain ⟨b', cap', s0, s1, s2, v1, v2⟩ := hR1.cells
    have hNw : NdV (fun q => (no q ∨ w.heap.size ≤ q) ∧ q ≠ w.heap.size) wr x (ndv x b cap) := hN.weak (fun q hq _ => ⟨.inr (by omega), by omega⟩)
    rcases hFl with ⟨rfl, hFi⟩ | ⟨rfl, hP⟩
    · go_wp2
      refine bodyPost_ret (res116 rfl (put4_same _ _ _ _ p2)) rfl ?_
      exact na_close hNw hR1 hk (Nat.le_refl _) hBw (.inl ⟨rfl, hFi⟩)
    have hT := text_any B ts j false wr hR1
    have hSg := fun u => sign_at (tx (rest ts j)) u
    rw [show txd ts j false = tx (rest ts j) from rfl] at hT
    unfold sgV at hSg
    cases gk with
    | zero => cases hP
    | succ k =>
    dsimp only at hP
    rw [P] at hP
    cases hop : opAt (tx (rest ts j)) with
    | none =>
      rw [hop] at hP
      simp only [hop] at hSg
      have hq : ((-1 : Int) == (a : Int)) = false := by simp <;> omega
      obtain ⟨tt, htt⟩ : ∃ tt, tx (rest ts j) = tt := ⟨_, rfl⟩
      rw [htt] at hT hSg
      clear hop htt
      go_wp2_with (first | (go_at_call 32; refine hT.mono ?_; rintro e w2 ⟨rfl, hb2⟩) | (go_at_call 144; refine (hSg _).mono ?_; rintro e w3 ⟨rfl, hb3⟩; have hb := ext_trans hb2 hb3; have q3 := block_below hb p3; have q2 := block_below hb p2; obtain ⟨c0, c1, c2, c3, f0, f1, f2, f3⟩ := in4 q3; obtain ⟨d0, d1, d2, d3, e0, e1, e2, e3⟩ := in4 q2))
      refine bodyPost_ret (res116 rfl (put4_same _ _ _ _ q2)) rfl ?_
      exact na_close (hNw.below hb) (hR1.below hb) (hk.trans (Keeps.of_below hb)) (Nat.le_refl _) hBw (.inr ⟨rfl, hP⟩)
    | some ok =>
      obtain ⟨o, lv⟩ := ok
      rw [hop] at hP
      simp only [hop] at hSg
      simp only at hP
      by_cases hlv : lv = a
      · subst hlv
        rw [if_pos rfl, on_on] at hP
        have hne : tx (rest ts j) ≠ [] := fun e => by rw [e, show opAt [] = none by decide] at hop; cases hop
        have hjl := tx_lt rfl hne
        have hsh := hR1.short
        obtain ⟨tt, htt⟩ : ∃ tt, tx (rest ts j) = tt := ⟨_, rfl⟩
        rw [rest_tail] at hP
        rw [htt] at hT hSg
        have hcall := fun u (h : Dr u B ts (j + 1) false) => hG k (by omega) (lv + 1) r Fin _ B ts (j + 1) u (by omega) hF h hP
        rw [show ((lv + 1 : Nat) : Int) = (lv : Int) + 1 by omega] at hcall
        clear hop htt hne hP c0 c1 c2 c3 f0 f1 f2 f3 d0 d1 d2 d3 e0 e1 e2 e3
        go_wp2_with (first | (go_at_call 32; refine hT.mono ?_; rintro e w2 ⟨rfl, hb2⟩) | (go_at_call 144; refine (hSg _).mono ?_; rintro e w3 ⟨rfl, hb3⟩; have hb := ext_trans hb2 hb3; have hR3 := hR1.below hb; have hR4 := hR3.go (j := j + 1) hjl; obtain ⟨b', cap', s0, s1, s2, v1, v2⟩ := hR3.cells) | (go_at_call 116; refine (hcall _ hR4).mono ?_; rintro e w5 ⟨y, by', cy, j2, bad2, rfl, hNy, hR5, hk5, hFl2⟩; refine Hid.out ?_))
        have hk4 : Keeps (fun q => q = B) wr (w3.setCell ⟨B, 1, none⟩ (.int .i64 ((j + 1 : Nat) : Int))) := (Keeps.of_below hb).set B 1 _ (fun _ => rfl)
        have hk5' := hk4.trans hk5
        have q3 := hk5'.box p3 (by omega)
        have q2 := hk5'.box p2 (by omega)
        have hNx5 := hN.keep hk5' (fun q hq _ e => by omega)
        have hz4 := hk5'.size
        have hz6 := hk5.size
        have hNy5 : NdV (fun q => w.heap.size < q ∧ q ≠ t) w5 y (ndv y by' cy) := hNy.weak (fun q hq _ => by have h1 := hk4.size; have h2 := hq.resolve_left id; exact ⟨by omega, by omega⟩)
        have hb6 := ext_alloc (Below.refl w5.heap.size w5) (nbx y by' cy)
        have gy := alloc_new w5 (nbx y by' cy)
        have hNx6 := (hNx5.weak (S' := fun q => (w.heap.size < q ∧ q ≠ t)) (fun q hq _ => hq)).below hb6
        have hNy6 := hNy5.below hb6
        have hR6 := hR5.below hb6
        have hkw6 := (hk.trans hk5').trans (Keeps.of_below hb6)
        have q36 := block_below hb6 q3
        have q26 := block_below hb6 q2
        clear hk4 hk5 hNx5 hNy5 hNy hR5 hT hSg hcall hR4 hR3 s0 s1 s2 v1 v2 hb2 hb3 hb hN hNw
        obtain ⟨w6, hw6⟩ : ∃ w6, w5.alloc (nbx y by' cy) = w6 := ⟨_, rfl⟩
        rw [hw6] at gy hNx6 hNy6 hR6 hkw6 q36 q26
        have hz7 : w5.heap.size < w6.heap.size := block_lt gy
        obtain ⟨W7, hW7⟩ : ∃ W7, put4 (w6.alloc (.cells #[.int .i64 x.k, sk x.t, .int .i64 x.n, .slice b x.kids.length cap, .int .i64 y.k, sk y.t, .int .i64 y.n, .slice by' y.kids.length cy] 24)) t (.int .i64 22) (sk []) (.int .i64 o) (.slice (some ⟨w6.heap.size, 0, none⟩) 2 2) = W7 := ⟨_, rfl⟩
        obtain ⟨hN7, g7, hk7⟩ := pair_box 22 o hNx6 hNy6 (fun q hq => hq.2) ⟨by omega, by omega⟩ q36 hW7
        have g27 := hk7.box q26 (by omega)
        have hR7 := hR6.keep hk7 (fun q hq e => by omega)
        have hkw7 := hkw6.then hk7 (fun q hq e => by omega)
        replace hw6 : w5.alloc (.cells #[.int .i64 y.k, .string ⟨y.t.toArray⟩, .int .i64 y.n, .slice by' y.kids.length cy] 24) = w6 := hw6
        replace hW7 : ((((w6.alloc (.cells #[.int .i64 x.k, .string ⟨x.t.toArray⟩, .int .i64 x.n, .slice b x.kids.length cap, .int .i64 y.k, .string ⟨y.t.toArray⟩, .int .i64 y.n, .slice by' y.kids.length cy] 24)).setCell ⟨t, 0, none⟩ (.int .i64 22)).setCell ⟨t, 1, none⟩ (.string ⟨#[]⟩)).setCell ⟨t, 2, none⟩ (.int .i64 o)).setCell ⟨t, 3, none⟩ (.slice (some ⟨w6.heap.size, 0, none⟩) 2 2) = W7 := hW7
        obtain ⟨c0, c1, c2, c3, f0, f1, f2, f3⟩ := in4 q36
        obtain ⟨x0, x1, x2, x3, y0, y1, y2, y3⟩ := in4a q36
        obtain ⟨a0, a1, a2, a3, _, _, _, _⟩ := in4 gy
        have n1 : ¬ t = w6.heap.size := by omega
        have n2 : ¬ w6.heap.size = t := by omega
        have hNw7 : NdV (fun q => (no q ∨ w.heap.size ≤ q) ∧ q ≠ w.heap.size) W7 ⟨22, [], o, [x, y]⟩ (ndv ⟨22, [], o, [x, y]⟩ (some ⟨w6.heap.size, 0, none⟩) 2) := hN7.weak (fun q hq _ => ⟨.inr (by omega), by omega⟩)
        clear q3 q2 hb6 hNx6 hNy6 hR6 hkw6 q26 hk7 p3 p2 hR1 hk hk5' hG hF q36 gy hz4 hz6 hz2 hz3 hz1
        replace hN7 : Hid _ := hN7
        replace hFl2 : Hid _ := hFl2
        replace hNw7 : Hid _ := hNw7
        replace hR7 : Hid _ := hR7
        replace hkw7 : Hid _ := hkw7
        obtain ⟨r0, r1, r2, r3, t0, t1, t2, t3⟩ := in4 g7
        obtain ⟨d0, d1, d2, d3, e0, e1, e2, e3⟩ := in4 g27
        refine Lib.hid ?_
        by_cases h2 : lv = 2
        · subst h2
          have hFl3 : Hid (Fl ts Fin r j2 bad2 (g ⟨22, [], o, [x, y]⟩)) := by
            rcases hFl2.out with h | ⟨h1, h2⟩
            · exact .inl h
            · exact .inr ⟨h1, h2⟩
          clear hFl2
          go_wp2
          refine bodyPost_ret (res116 rfl (put4_same _ _ _ _ g27)) rfl ?_
          exact na_close (x := ⟨22, [], o, [x, y]⟩) hNw7.out hR7.out hkw7.out (Nat.le_refl _) hBw hFl3.out
        · have hq2 : ((lv : Int) == 2) = false := by simp; omega
          have hFl3 : Hid (Fl ts Fin r j2 bad2 (fun l => (P k 2 ⟨22, [], o, [x, y]⟩ lv l).on g)) := by
            rcases hFl2.out with h | ⟨h1, h3⟩
            · exact .inl h
            · refine .inr ⟨h1, ?_⟩
              dsimp only at h3
              rw [if_neg h2] at h3
              exact h3
          clear hFl2
          go_wp2
          go_roundg k
          case measure => omega
          case rel => exact ⟨⟨22, [], o, [x, y]⟩, _, 2, j2, bad2, g7, g27, hN7.out, hR7.out, hkw7.out, by omega, hFl3.out⟩
      · have hq : (((lv : Nat) : Int) == (a : Int)) = false := by simp; omega
        rw [if_neg hlv] at hP
        obtain ⟨tt, htt⟩ : ∃ tt, tx (rest ts j) = tt := ⟨_, rfl⟩
        rw [htt] at hT hSg
        clear hop htt
        go_wp2_with (first | (go_at_call 32; refine hT.mono ?_; rintro e w2 ⟨rfl, hb2⟩) | (go_at_call 144; refine (hSg _).mono ?_; rintro e w3 ⟨rfl, hb3⟩; have hb := ext_trans hb2 hb3; have q3 := block_below hb p3; have q2 := block_below hb p2; obtain ⟨c0, c1, c2, c3, f0, f1, f2, f3⟩ := in4 q3; obtain ⟨d0, d1, d2, d3, e0, e1, e2, e3⟩ := in4 q2))
        refine bodyPost_ret (res116 rfl (put4_same _ _ _ _ q2)) rfl ?_
        exact na_close (hNw.below hb) (hR1.below hb) (hk.trans (Keeps.of_below hb)) (Nat.le_refl _) hBw (.inr ⟨rfl, hP⟩)
theorem bound_of (f : Nat) (hG : ∀ k, k ≤ f → DRow k) (hU : DUn f) : DRow (f + 1) := by
  intro a r Fin g B ts i w ha hF hR hP
  rw [P, ite_on] at hP
  split at hP
  · have : a = 6 := by omega
    subst this
    exact bound_un f hU r Fin g B ts i w hF hR hP
  · rw [on_on] at hP
    exact bound_ops f hG a (by omega) r Fin g B ts i w hF hR hP
end Go.Proofs.YtbofdfdmikhanaaGreatDoor
namespace Go.Proofs.YtbofdfdmikhanaaGreatDoor
open Go.RowKit
open Go

theorem suf_of (f : Nat) (hE : ∀ g, g ≤ f → ExprC g) : SufC (f + 1) := by
  intro x b cap D r B ts i w hC hx hS hP
  rw [P] at hP
  split at hP
  · rename_i h
    exact suf_index f (hE f (Nat.le_refl _)) x b cap D r B ts i w hC hx hS h hP
  · rename_i h
    exact suf_args f hE x b cap D r B ts i w hC hx hS h hP

def SimC (f : Nat) : Prop := ∀ (r : PRes) (B : Nat) (ts : List Tok) (i : Nat) (w : World), Ctx w B ts i → P f 3 nil0 0 (rest ts i) = some r → Calls Tryz.prog 178 #[.pointer (some ⟨B, 0, none⟩)] w (PAns no w B ts r)
theorem res175 {tm : Array Value} {W : World} {B : Nat} {a b c d : Value} (h : tm[2]?.getD undef = .pointer (some ⟨B, 0, none⟩)) (hx : W.heap[B]? = some (.cells #[a, b, c, d] 24)) : (results Tryz.f175 tm).run Tryz.prog W = .ok (.agg #[a, b, c, d]) W := by
  obtain ⟨c0, c1, c2, c3, _, _, _, _⟩ := in4 hx
  simp [results, Tryz.results175, go_sem, h, c0, c1, c2, c3]
/-- Between two of those behind. -/
def SufI (f t : Nat) (w : World) (B : Nat) (ts : List Tok) (r : PRes) (k : Nat) (wr : World) : Prop :=
  ∃ (n : Nd) (j : Nat) (b : Option Addr) (cap : Nat), wr.heap[t]? = some (nbx n b cap) ∧ wr.heap[w.heap.size]? = some zbx ∧ NdV (fun g => w.heap.size ≤ g ∧ g ≠ w.heap.size ∧ g ≠ t) wr n (ndv n b cap) ∧ Rd wr B ts j ∧ Keeps (fun k => k = B) w wr ∧ k ≤ f ∧ P k 4 n 0 (rest ts j) = some r
set_option maxRecDepth 20000 in
set_option maxHeartbeats 4000000 in
theorem sfxd_of (f : Nat) (hM : SimC f) (hF : ∀ g, g < f → SufC g) (r : PRes) (B : Nat) (ts : List Tok) (i : Nat) (w : World) (hC : Ctx w B ts i) (hP : (P f 3 nil0 0 (rest ts i)).on (fun n l => P f 4 n 0 l) = some r) : Calls Tryz.prog 175 #[.pointer (some ⟨B, 0, none⟩)] w (PAns no w B ts r) := by
  obtain ⟨r0, hr0, hr1⟩ := on_some hP
  have hEE := hM r0 B ts i _ (hC.below (ext_alloc (Below.refl _ _) zbx)) hr0
  have h2 := alloc_new w zbx
  have hBw := hC.R.lt
  have hk0 : Keeps (fun k => k = B) w (w.alloc zbx) := Keeps.of_below (ext_alloc (Below.refl _ _) _)
  replace hr1 : Hid _ := hr1
  clear hP hr0 hM
  go_enter Tryz.func175, Tryz.ntmps175
  go_wp2_with (go_at_call 178; refine hEE.mono ?_; intro e w1 hA; rcases r0 with l1 | ⟨n1, l1⟩; (obtain ⟨j, hj, hle, rfl, hk1⟩ := hA; rcases hr1.out with ⟨l, e1, e2⟩ | ⟨n, l, e1, _⟩; (cases e1; subst e2; exact ⟨rfl, close_pan hj hle (hk0.trans hk1)⟩); cases e1); obtain ⟨j, b1, cap1, hj, rfl, hN1, hR1, hk1⟩ := hA)
  rcases hr1.out with ⟨l, e1, _⟩ | ⟨n, l, e1, hr2⟩
  · cases e1
  cases e1
  have g2 := hk1.box h2 (by omega)
  have hz := block_lt g2
  have hb1 : Below w1.heap.size w1 (w1.alloc (nbx n1 b1 cap1)) := ext_alloc (Below.refl _ _) _
  have hI : SufI f w1.heap.size w B ts r f (w1.alloc (nbx n1 b1 cap1)) := ⟨n1, j, b1, cap1, alloc_new _ _, block_below hb1 g2, (hN1.weak (fun g hg hlt => by simp at hg; exact ⟨by omega, by omega, by omega⟩)).below hb1, hR1.below hb1, (hk0.trans hk1).trans (Keeps.of_below hb1), Nat.le_refl _, by rw [hj]; exact hr2⟩
  obtain ⟨t, ht⟩ : ∃ t, w1.heap.size = t := ⟨_, rfl⟩
  obtain ⟨W1, hW1⟩ : ∃ W1, w1.alloc (nbx n1 b1 cap1) = W1 := ⟨_, rfl⟩
  rw [hW1] at hI
  dsimp only [nbx] at hW1
  rw [hW1]
  rw [ht] at hI hz ⊢
  clear hW1 ht hr1 hr2 hN1 hR1 hk1 g2 h2 hk0 hb1 hEE
  go_loopg [8] f (fun k _ wr => SufI f t w B ts r k wr)
  case atStart => exact hI
  case round =>
    clear hI
    obtain ⟨n, j, b, cap, g3, g2, hN, hR, hk, hgf, hr⟩ := hrel
    have hCr := hC.on hR
    cases gk with
    | zero => cases hr
    | succ g =>
      rw [P] at hr
      have hSee := hCr.sees2 pl_lb pl_lp wr (Below.refl _ _)
      by_cases hy : tx (rest ts j) = S.lb ∨ tx (rest ts j) = S.lp
      · rw [decide_eq_true hy] at hSee
        rw [if_pos hy] at hr
        obtain ⟨r1, hr1, hr2⟩ := on_some hr
        have hFF := fun u (hb : Below wr.heap.size wr u) => hF g (by omega) n b cap _ r1 B ts j u (hCr.below hb) (hN.below hb) (fun g hg => by omega) hr1
        replace hr2 : Hid _ := hr2
        clear hr hr1 hF
        go_wp2_with (first | (go_at_call 95; refine hSee.mono ?_; rintro e w4 ⟨rfl, hb4⟩; have q3 := block_below hb4 g3; obtain ⟨c0, c1, c2, c3, f0, f1, f2, f3⟩ := in4 q3) | (go_at_call 156; refine (hFF _ hb4).mono ?_; intro e w5 hA; rcases r1 with l1 | ⟨n2, l2⟩; (obtain ⟨j2, hj2, hle, rfl, hk5⟩ := hA; rcases hr2.out with ⟨l, e1, e2⟩ | ⟨n, l, e1, _⟩; (cases e1; subst e2; exact ⟨rfl, close_pan hj2 hle ((hk.trans (Keeps.of_below hb4)).trans hk5)⟩); cases e1); obtain ⟨j2, b2, cap2, hj2, rfl, hN5, hR5, hk5⟩ := hA; have q3 := hk5.box q3 (by omega); obtain ⟨c0, c1, c2, c3, f0, f1, f2, f3⟩ := in4 q3))
        rcases hr2.out with ⟨l, e1, _⟩ | ⟨n', l, e1, hr3⟩
        · cases e1
        cases e1
        have hz5 := hb4.size
        have hzt := block_lt g3
        go_roundg g
        case measure => omega
        case rel => exact ⟨n2, j2, b2, cap2, put4_same _ _ _ _ q3, (put4_other _ _ _ _ (by omega)).trans (hk5.box (block_below hb4 g2) (by omega)), (hN5.weak (fun g hg hlt => by rcases hg with hg | hg; exact hg; exact ⟨by omega, by omega, by omega⟩)).put4 _ _ _ _ _ (fun g hg => hg.2.2), hR5.put4 _ _ _ _ _ (by omega), put4_keeps ((hk.trans (Keeps.of_below hb4)).trans hk5) _ _ _ _ _ (by omega), by omega, by rw [hj2]; exact hr3⟩
      · rw [decide_eq_false hy] at hSee
        rw [if_neg hy] at hr
        replace hr : Hid _ := hr
        go_wp2_with (go_at_call 95; refine hSee.mono ?_; rintro e w4 ⟨rfl, hb4⟩; have q3 := block_below hb4 g3; have q2 := block_below hb4 g2; obtain ⟨c0, c1, c2, c3, f0, f1, f2, f3⟩ := in4 q3; obtain ⟨d0, d1, d2, d3, e0, e1, e2, e3⟩ := in4 q2)
        refine bodyPost_ret (res175 rfl (put4_same _ _ _ _ q2)) rfl ?_
        obtain rfl := Option.some.inj hr.out
        exact close_ret rfl ((hN.below hb4).weak (fun g hg _ => ⟨.inr hg.1, hg.2.1⟩)) (hR.below hb4) (hk.trans (Keeps.of_below hb4)) (Nat.le_refl _) hBw
end Go.Proofs.YtbofdfdmikhanaaGreatDoor
