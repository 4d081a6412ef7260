/- The program's reader: for. The program's reader: next; if. The document's reader: a block. -/
import Derived.Test.YtbofdfdmikhanaaGreatDoorJ21
import Derived.Test.YtbofdfdmikhanaaGreatDoorJ19
namespace Go.Proofs.YtbofdfdmikhanaaGreatDoor
open Go.RowKit
open Go

theorem Row.three {D : Nat → Prop} {W : World} {g : Nat} {x y z : Nd} {a b c d a' b' c' d' a'' b'' c'' d'' : Value} (hm : D g) (hx : NdV (fun q => D q ∧ q ≠ g) W x (.agg #[a, b, c, d])) (hy : NdV (fun q => D q ∧ q ≠ g) W y (.agg #[a', b', c', d'])) (hz : NdV (fun q => D q ∧ q ≠ g) W z (.agg #[a'', b'', c'', d''])) (hg : W.heap[g]? = some (.cells #[a, b, c, d, a', b', c', d', a'', b'', c'', d''] 24)) :
    Row D W (.slice (some ⟨g, 0, none⟩) 3 3) [x, y, z] := by
  refine ⟨[a, b, c, d, a', b', c', d', a'', b'', c'', d''], ⟨rfl, .inr ⟨g, 3, _, rfl, Nat.zero_le _, hg, Nat.le_refl _, by unfold maxLen; omega, rfl, rfl⟩⟩, fun q e => by
    have e3 : g = q := by simpa [Value.ownBlock] using e
    subst e3; exact hm, fun j u hu => ?_⟩
  have hS : ∀ q, (D q ∧ q ≠ g) → q < W.heap.size → (D q ∧ some q ≠ Value.ownBlock (.slice (some ⟨g, 0, none⟩) 3 3)) ∧ W.heap[q]? = W.heap[q]? := fun q hq _ => ⟨⟨hq.1, fun e => hq.2 (by simpa [Value.ownBlock] using e)⟩, rfl⟩
  match j, hu with
  | 0, hu =>
    simp at hu; subst hu
    obtain ⟨_, _, _, _, e, hx⟩ := hx
    simp only [Value.agg.injEq, Array.mk.injEq, List.cons.injEq, and_true] at e
    obtain ⟨rfl, rfl, rfl, rfl⟩ := e
    refine NdAt.on hS _ _ _ (fun i u hu => ?_) hx
    match i, hu with
    | 0, hu | 1, hu | 2, hu | 3, hu => simpa using hu
    | n + 4, hu => simp at hu
  | 1, hu =>
    simp at hu; subst hu
    obtain ⟨_, _, _, _, e, hy⟩ := hy
    simp only [Value.agg.injEq, Array.mk.injEq, List.cons.injEq, and_true] at e
    obtain ⟨rfl, rfl, rfl, rfl⟩ := e
    refine NdAt.on hS _ _ _ (fun i u hu => ?_) hy
    match i, hu with
    | 0, hu | 1, hu | 2, hu | 3, hu => simpa using hu
    | n + 4, hu => simp at hu
  | 2, hu =>
    simp at hu; subst hu
    obtain ⟨_, _, _, _, e, hz⟩ := hz
    simp only [Value.agg.injEq, Array.mk.injEq, List.cons.injEq, and_true] at e
    obtain ⟨rfl, rfl, rfl, rfl⟩ := e
    refine NdAt.on hS _ _ _ (fun i u hu => ?_) hz
    match i, hu with
    | 0, hu | 1, hu | 2, hu | 3, hu => simpa using hu
    | n + 4, hu => simp at hu
  | n + 3, hu => simp at hu
theorem close_three {w : World} {B : Nat} {ts : List Tok} {x y z : Nd} {b b1 b2 : Option Addr} {cap cap1 cap2 : Nat} {j : Nat} {W : World} {a0 a1 a2 a3 : Value} (k : Int) (s : List UInt8) (hx : NdV (fun q => w.heap.size < q) W x (ndv x b cap)) (hy : NdV (fun q => w.heap.size < q) W y (ndv y b1 cap1)) (hz : NdV (fun q => w.heap.size < q) W z (ndv z b2 cap2)) (hR : Rd W B ts j) (hk : Keeps (fun k => k = B) w W) (hB : B < w.heap.size) (g : W.heap[w.heap.size]? = some (.cells #[a0, a1, a2, a3] 24)) :
    PAns no w B ts (.inr (⟨k, s, 0, [x, y, z]⟩, rest ts j)) (.returned (ndv ⟨k, s, 0, [x, y, z]⟩ (some ⟨W.heap.size, 0, none⟩) 3)) (put4 (W.alloc (.cells #[.int .i64 x.k, sk x.t, .int .i64 x.n, .slice b x.kids.length cap, .int .i64 y.k, sk y.t, .int .i64 y.n, .slice b1 y.kids.length cap1, .int .i64 z.k, sk z.t, .int .i64 z.n, .slice b2 z.kids.length cap2] 24)) w.heap.size (.int .i64 k) (sk s) (.int .i64 0) (.slice (some ⟨W.heap.size, 0, none⟩) 3 3)) := by
  have hb := ext_alloc (Below.refl W.heap.size W) (.cells #[.int .i64 x.k, sk x.t, .int .i64 x.n, .slice b x.kids.length cap, .int .i64 y.k, sk y.t, .int .i64 y.n, .slice b1 y.kids.length cap1, .int .i64 z.k, sk z.t, .int .i64 z.n, .slice b2 z.kids.length cap2] 24)
  have hlt := block_lt g
  have go : ∀ {u : Nd} {v : Value}, NdV (fun q => w.heap.size < q) W u v → NdV (fun q => w.heap.size < q ∧ q ≠ W.heap.size) (W.alloc (.cells #[.int .i64 x.k, sk x.t, .int .i64 x.n, .slice b x.kids.length cap, .int .i64 y.k, sk y.t, .int .i64 y.n, .slice b1 y.kids.length cap1, .int .i64 z.k, sk z.t, .int .i64 z.n, .slice b2 z.kids.length cap2] 24)) u v := fun h => (h.weak (fun q hq hlt => ⟨hq, by omega⟩)).below hb
  have h1 := ((Row.three (D := fun q => w.heap.size < q) hlt (go hx) (go hy) (go hz) (alloc_new W _)).node k s 0).put4 w.heap.size (.int .i64 k) (sk s) (.int .i64 0) (.slice (some ⟨W.heap.size, 0, none⟩) 3 3) (fun q hq => by omega)
  exact ⟨j, _, 3, rfl, rfl, h1.weak (fun q hq _ => .inr (by omega)), (hR.below hb).put4 _ _ _ _ _ hB, put4_keeps (hk.trans (Keeps.of_below hb)) _ _ _ _ _ (Nat.le_refl _)⟩
theorem res140 {tm : Array Value} {W : World} {B : Nat} {a b c d : Value} (h : tm[2]?.getD undef = .pointer (some ⟨B, 0, none⟩)) (hx : W.heap[B]? = some (.cells #[a, b, c, d] 24)) : (results Tryz.f140 tm).run Tryz.prog W = .ok (.agg #[a, b, c, d]) W := by
  obtain ⟨c0, c1, c2, c3, _, _, _, _⟩ := in4 hx
  simp [results, Tryz.results140, go_sem, h, c0, c1, c2, c3]
set_option maxRecDepth 20000 in
set_option maxHeartbeats 2000000 in
theorem count_of (f : Nat) (hE : ExprC f) (hB : BlkC f) (r : PRes) (B : Nat) (ts : List Tok) (i : Nat) (w : World) (hC : Ctx w B ts i) (hP : needName (rest ts i) (fun s l => need S.eq l fun l => (P f 0 nil0 0 l).on fun x l => need S.cm l fun l => (P f 0 nil0 0 l).on fun y l => need W.do_ l fun l => (P f 7 (nd 4 []) 0 l).on fun b l => need W.end_ l fun l => .ok ⟨10, s, 0, [x, y, b]⟩ l) = some r) : Calls Tryz.prog 140 #[.pointer (some ⟨B, 0, none⟩)] w (PAns no w B ts r) := by
  have hBw := hC.R.lt
  have hb0 : Below w.heap.size w (w.alloc zbx) := ext_alloc (Below.refl _ _) _
  have h2 := alloc_new w zbx
  have hk0 : Keeps (fun k => k = B) w (w.alloc zbx) := Keeps.of_below hb0
  have hc1 := hC.nameU hP _ hb0
  clear hP
  go_enter Tryz.func140, Tryz.ntmps140
  go_wp2_with (first
    | (go_at_call 94; refine hc1.mono ?_; rintro e w1 (⟨rfl, hle, rfl, hk1⟩ | ⟨s, hP1, rfl, hR1, hk1⟩); (exact ⟨rfl, close_pan rfl hle (hk0.trans hk1)⟩); (try dsimp only at hP1); have hk1' := hk0.trans hk1; have g1 := hk1.box h2 (by omega))
    | (go_at_call 93; refine ((hC.on hR1).wantsU pl_eq hP1 _ (Below.refl _ _)).mono ?_; rintro e w2 (⟨rfl, hle, rfl, hk2⟩ | ⟨hP2, rfl, hR2, hk2⟩); (exact ⟨rfl, close_pan rfl hle (hk1'.trans hk2)⟩); (try dsimp only at hP2); have hk2' := hk1'.trans hk2; have g2 := hk2.box g1 (by omega))
    | (go_at_call 154; refine (callU hP2 (fun r0 h => hE r0 B ts _ _ (hC.on hR2) h)).mono ?_; rintro e w3 (⟨j, rfl, hle, rfl, hk3⟩ | ⟨n1, j1, b1, cap1, hP3, rfl, hN1, hR3, hk3⟩); (exact ⟨rfl, close_pan rfl hle (hk2'.trans hk3)⟩); (try dsimp only at hP3); have hk3' := hk2'.trans hk3; have g3 := hk3.box g2 (by omega); refine Hid.out ?_))
  have hzw := block_lt g1
  have hz2 := hk2.size
  have hz3 := hk3.size
  have hb3 : Below w3.heap.size w3 (w3.alloc (nbx n1 b1 cap1)) := ext_alloc (Below.refl _ _) _
  have q4 := alloc_new w3 (nbx n1 b1 cap1)
  have g3' := block_below hb3 g3
  have hN1' : NdV (fun q => w.heap.size < q) (w3.alloc (nbx n1 b1 cap1)) n1 (ndv n1 b1 cap1) := (hN1.weak (fun q hq _ => by omega)).below hb3
  have hk4 := hk3'.trans (Keeps.of_below hb3)
  have hW4 := (hC.on hR3).wantsU pl_cm hP3 _ hb3
  rw [World.size_alloc] at hW4
  clear hc1 hP1 hP2 hP3 hR1 hk1 hk1' hR2 hk2 hk2' g2 h2 hk3 hk3' hN1
  refine Lib.hid ?_
  go_wp2_with (first
    | (go_at_call 93; refine hW4.mono ?_; rintro e w5 (⟨rfl, hle, rfl, hk5⟩ | ⟨hP5, rfl, hR5, hk5⟩); (exact ⟨rfl, close_pan rfl hle (hk4.trans hk5)⟩); (try dsimp only at hP5); have hk5' := hk4.trans hk5; have p4 := hk5.box q4 (by omega); have p2 := hk5.box g3' (by omega); have hN5 := hN1'.keep hk5 (fun q hq _ => by omega))
    | (go_at_call 154; refine (callU hP5 (fun r0 h => hE r0 B ts _ _ (hC.on hR5) h)).mono ?_; rintro e w6 (⟨j, rfl, hle, rfl, hk6⟩ | ⟨n2, j2, b2, cap2, hP6, rfl, hN2, hR6, hk6⟩); (exact ⟨rfl, close_pan rfl hle (hk5'.trans hk6)⟩); (try dsimp only at hP6); have hk6' := hk5'.trans hk6; have p4' := hk6.box p4 (by omega); have p2' := hk6.box p2 (by omega); have hN6 := hN5.keep hk6 (fun q hq _ => by omega); refine Hid.out ?_))
  have hz5 := block_lt p4
  have hz6 := hk6.size
  have hb6 : Below w6.heap.size w6 (w6.alloc (nbx n2 b2 cap2)) := ext_alloc (Below.refl _ _) _
  have q5 := alloc_new w6 (nbx n2 b2 cap2)
  have q4' := block_below hb6 p4'
  have q2' := block_below hb6 p2'
  have hNx := hN6.below hb6
  have hNy : NdV (fun q => w.heap.size < q) (w6.alloc (nbx n2 b2 cap2)) n2 (ndv n2 b2 cap2) := (hN2.weak (fun q hq _ => by omega)).below hb6
  have hk7 := hk6'.trans (Keeps.of_below hb6)
  have hC7 := (hC.on hR6).below hb6
  have hc8 := fun u h => body_of f hB r B ts j2 u h (fun b l => .ok ⟨10, s, 0, [n1, n2, b]⟩ l) hP6
  have hs7 : (w6.alloc (nbx n2 b2 cap2)).heap.size = w6.heap.size + 1 := World.size_alloc _ _
  obtain ⟨W7, hW7⟩ : ∃ W7, w6.alloc (nbx n2 b2 cap2) = W7 := ⟨_, rfl⟩
  rw [hW7] at q5 q4' q2' hNx hNy hk7 hC7 hs7
  obtain ⟨t4, h4⟩ : ∃ t4, w3.heap.size = t4 := ⟨_, rfl⟩
  obtain ⟨t5, h5⟩ : ∃ t5, w6.heap.size = t5 := ⟨_, rfl⟩
  clear hP5 hP6 hW4 hR3 hR5 hR6 hk5 hk6 hk5' hk6' p4 p2 p4' p2' hN1' hN5 hN6 hN2 hb3 hb6 q4 g3 g3' hk4
  refine Lib.hid ?_
  go_wp2
  rw [h4] at q4' hz3 hz5 ⊢
  rw [h5] at q5 hs7 hz6
  clear hW7 h4 h5
  obtain ⟨c0, c1, c2, c3, f0, f1, f2, f3⟩ := in4 q4'
  obtain ⟨d0, d1, d2, d3, e0, e1, e2, e3⟩ := in4 q5
  go_region_with ((go_at_call 155; refine (hc8 _ (hC7.below ((Below.refl _ _).drew))).mono ?_; rintro e w8 (⟨j8, rfl, hle, rfl, hk8⟩ | ⟨n3, j8, b3, cap3, hP8, rfl, hN3, hR8, hk8⟩); (exact ⟨rfl, close_pan rfl hle ((hk7.drew).trans hk8)⟩); have g4 := hk8.box q4' (by omega); have g5 := hk8.box q5 (by omega); have g2 := hk8.box q2' (by omega); obtain ⟨c0, c1, c2, c3, f0, f1, f2, f3⟩ := in4 g4; obtain ⟨d0, d1, d2, d3, e0, e1, e2, e3⟩ := in4 g5; obtain ⟨u0, u1, u2, u3, v0, v1, v2, v3⟩ := in4a g2))
  all_goals
    go_wp2
    refine bodyPost_ret (res140 rfl (put4_same _ _ _ _ (block_alloc _ g2))) rfl ?_
    obtain rfl := Option.some.inj hP8
    exact close_three 10 s ((hNx.below ((Below.refl _ _).drew)).keep hk8 (fun q hq _ => by omega)) ((hNy.below ((Below.refl _ _).drew)).keep hk8 (fun q hq _ => by omega)) (hN3.weak (fun q hq _ => by simp at hq; omega)) hR8 ((hk7.drew).trans hk8) hBw g2
end Go.Proofs.YtbofdfdmikhanaaGreatDoor
namespace Go.Proofs.YtbofdfdmikhanaaGreatDoor
open Go.RowKit
open Go

/-- A pair of nodes, and the box of the node that is made of them. -/
structure PB (w W : World) (B : Nat) (ts : List Tok) (k : Int) (x y : Nd) (t j : Nat) : Prop where
  box : ∃ b cap, W.heap[t]? = some (nbx (nd k [x, y]) b cap) ∧ Row (fun q => w.heap.size < q ∧ q ≠ t) W (.slice b 2 cap) [x, y] ∧ (∀ q, Value.ownBlock (.slice b 2 cap) = some q → w.heap.size < q)
  ans : W.heap[w.heap.size]? = some zbx
  R : Rd W B ts j
  K : Keeps (fun k => k = B) w W
  lt : w.heap.size < t
abbrev pairO (x y : Nd) (b b1 : Option Addr) (cap cap1 : Nat) : Obj := .cells #[.int .i64 x.k, sk x.t, .int .i64 x.n, .slice b x.kids.length cap, .int .i64 y.k, sk y.t, .int .i64 y.n, .slice b1 y.kids.length cap1] 24
theorem own_is {g n c q : Nat} (e : Value.ownBlock (.slice (some ⟨g, 0, none⟩) n c) = some q) : g = q := by simpa [Value.ownBlock] using e
theorem pb_A {w w2 : World} {B : Nat} {ts : List Tok} {x y : Nd} {b b1 : Option Addr} {cap cap1 j : Nat} (k : Int) (hx : NdV (fun q => w.heap.size < q) w2 x (ndv x b cap)) (hy : NdV (fun q => w.heap.size < q) w2 y (ndv y b1 cap1)) (g2 : w2.heap[w.heap.size]? = some zbx) (hR : Rd w2 B ts j) (hk : Keeps (fun k => k = B) w w2) :
    PB w ((w2.alloc (pairO x y b b1 cap cap1)).alloc (nbx (nd k [x, y]) (some ⟨w2.heap.size, 0, none⟩) 2)) B ts k x y (w2.heap.size + 1) j := by
  have hb := ext_alloc (ext_alloc (Below.refl w2.heap.size w2) (pairO x y b b1 cap cap1)) (nbx (nd k [x, y]) (some ⟨w2.heap.size, 0, none⟩) 2)
  have hlt := block_lt g2
  have h4 := alloc_new (w2.alloc (pairO x y b b1 cap cap1)) (nbx (nd k [x, y]) (some ⟨w2.heap.size, 0, none⟩) 2)
  rw [World.size_alloc] at h4
  refine ⟨⟨_, 2, h4, ?_, fun q e => by have := own_is e; omega⟩, block_below hb g2, hR.below hb, hk.trans (Keeps.of_below hb), by omega⟩
  have hb1 := ext_alloc (Below.refl w2.heap.size w2) (pairO x y b b1 cap cap1)
  refine Row.below (W := w2.alloc (pairO x y b b1 cap cap1)) (Row.two ⟨hlt, by omega⟩ ?_ ?_ (alloc_new w2 _)) (ext_alloc (Below.refl _ _) _)
  · exact (hx.weak (fun q hq hlt => ⟨⟨hq, by omega⟩, by omega⟩)).below hb1
  · exact (hy.weak (fun q hq hlt => ⟨⟨hq, by omega⟩, by omega⟩)).below hb1
theorem pb_B {w w2 : World} {B : Nat} {ts : List Tok} {x y : Nd} {b b1 : Option Addr} {cap cap1 j t : Nat} (k : Int) (hx : NdV (fun q => w.heap.size < q ∧ q ≠ t) w2 x (ndv x b cap)) (hy : NdV (fun q => w.heap.size < q ∧ q ≠ t) w2 y (ndv y b1 cap1)) (g2 : w2.heap[w.heap.size]? = some zbx) (gt : w2.heap[t]? = some zbx) (ht : w.heap.size < t) (hBw : B < w.heap.size) (hR : Rd w2 B ts j) (hk : Keeps (fun k => k = B) w w2) :
    PB w (put4 (w2.alloc (pairO x y b b1 cap cap1)) t (.int .i64 k) (sk []) (.int .i64 0) (.slice (some ⟨w2.heap.size, 0, none⟩) 2 2)) B ts k x y t j := by
  have hlt := block_lt g2
  have hlt4 := block_lt gt
  have hb1 := ext_alloc (Below.refl w2.heap.size w2) (pairO x y b b1 cap cap1)
  refine ⟨⟨_, 2, put4_same _ _ _ _ (block_alloc _ gt), ?_, fun q e => by have := own_is e; omega⟩, (put4_other _ _ _ _ (by omega)).trans (block_alloc _ g2), (hR.below hb1).put4 _ _ _ _ _ (by omega), put4_keeps (hk.trans (Keeps.of_below hb1)) _ _ _ _ _ (by omega), ht⟩
  refine Row.keep ?_ (put4_self _ _ _ _ _ _) (fun q hq _ => hq.2)
  refine Row.two ⟨hlt, by omega⟩ ?_ ?_ (alloc_new w2 _)
  · exact (hx.weak (fun q hq hlt => ⟨hq, by omega⟩)).below hb1
  · exact (hy.weak (fun q hq hlt => ⟨hq, by omega⟩)).below hb1
theorem pb_C {w w2 : World} {B : Nat} {ts : List Tok} {x y : Nd} {b b1 : Option Addr} {cap cap1 j : Nat} (k : Int) (hx : NdV (fun q => w.heap.size < q) w2 x (ndv x b cap)) (hy : NdV (fun q => w.heap.size < q) w2 y (ndv y b1 cap1)) (g2 : w2.heap[w.heap.size]? = some zbx) (hR : Rd w2 B ts j) (hk : Keeps (fun k => k = B) w w2) :
    PB w ((w2.alloc (nbx (nd k [x, y]) (some ⟨w2.heap.size + 1, 0, none⟩) 2)).alloc (pairO x y b b1 cap cap1)) B ts k x y w2.heap.size j := by
  have hb := ext_alloc (ext_alloc (Below.refl w2.heap.size w2) (nbx (nd k [x, y]) (some ⟨w2.heap.size + 1, 0, none⟩) 2)) (pairO x y b b1 cap cap1)
  have hlt := block_lt g2
  have h4 := alloc_new (w2.alloc (nbx (nd k [x, y]) (some ⟨w2.heap.size + 1, 0, none⟩) 2)) (pairO x y b b1 cap cap1)
  rw [World.size_alloc] at h4
  refine ⟨⟨_, 2, block_alloc _ (alloc_new w2 _), ?_, fun q e => by have := own_is e; omega⟩, block_below hb g2, hR.below hb, hk.trans (Keeps.of_below hb), hlt⟩
  refine Row.two ⟨by omega, by omega⟩ ?_ ?_ h4
  · exact (hx.weak (fun q hq hlt => ⟨⟨hq, by omega⟩, by omega⟩)).below hb
  · exact (hy.weak (fun q hq hlt => ⟨⟨hq, by omega⟩, by omega⟩)).below hb
theorem res180 {tm : Array Value} {W : World} {B : Nat} {a b c d : Value} (h : tm[2]?.getD undef = .pointer (some ⟨B, 0, none⟩)) (hx : W.heap[B]? = some (.cells #[a, b, c, d] 24)) : (results Tryz.f180 tm).run Tryz.prog W = .ok (.agg #[a, b, c, d]) W := by
  obtain ⟨c0, c1, c2, c3, _, _, _, _⟩ := in4 hx
  simp [results, Tryz.results180, go_sem, h, c0, c1, c2, c3]
set_option maxRecDepth 20000 in
set_option maxHeartbeats 2000000 in
theorem next_of (f : Nat) (hE : ExprC f) (r : PRes) (B : Nat) (ts : List Tok) (i : Nat) (w : World) (hC : Ctx w B ts i) (hP : need S.lp (rest ts i) (fun l => (P f 0 nil0 0 l).on fun x l => need S.cm l fun l => (P f 0 nil0 0 l).on fun y l => need S.rp l fun l => .ok (nd 26 [x, y]) l) = some r) : Calls Tryz.prog 180 #[.pointer (some ⟨B, 0, none⟩)] w (PAns no w B ts r) := by
  have hBw := hC.R.lt
  have hb0 : Below w.heap.size w (w.alloc zbx) := ext_alloc (Below.refl _ _) _
  have h2 := alloc_new w zbx
  have hk0 : Keeps (fun k => k = B) w (w.alloc zbx) := Keeps.of_below hb0
  have hc1 := hC.wantsU pl_lp hP _ hb0
  rw [World.size_alloc] at hc1
  clear hP
  go_enter Tryz.func180, Tryz.ntmps180
  go_wp2_with (first
    | (go_at_call 93; refine hc1.mono ?_; rintro e w2 (⟨rfl, hle, rfl, hk2⟩ | ⟨hP2, rfl, hR2, hk2⟩); (exact ⟨rfl, close_pan rfl hle (hk0.trans hk2)⟩); (try dsimp only at hP2); have hk2' := hk0.trans hk2; have g2 := hk2.box h2 (by omega))
    | (go_at_call 154; refine (callU hP2 (fun r0 h => hE r0 B ts _ _ (hC.on hR2) h)).mono ?_; rintro e w3 (⟨j, rfl, hle, rfl, hk3⟩ | ⟨n1, j1, b1, cap1, hP3, rfl, hN1, hR3, hk3⟩); (exact ⟨rfl, close_pan rfl hle (hk2'.trans hk3)⟩); (try dsimp only at hP3); have hk3' := hk2'.trans hk3; have g3 := hk3.box g2 (by omega); refine Hid.out ?_))
  have hzw := block_lt g2
  have hz3 := hk3.size
  have hb3 : Below w3.heap.size w3 (w3.alloc (nbx n1 b1 cap1)) := ext_alloc (Below.refl _ _) _
  have q4 := alloc_new w3 (nbx n1 b1 cap1)
  have g3' := block_below hb3 g3
  have hN1' : NdV (fun q => w.heap.size < q) (w3.alloc (nbx n1 b1 cap1)) n1 (ndv n1 b1 cap1) := (hN1.weak (fun q hq _ => by omega)).below hb3
  have hk4 := hk3'.trans (Keeps.of_below hb3)
  have hW4 := (hC.on hR3).wantsU pl_cm hP3 _ hb3
  rw [World.size_alloc] at hW4
  obtain ⟨t3, ht3⟩ : ∃ t3, w3.heap.size = t3 := ⟨_, rfl⟩
  clear hc1 hP2 hP3 hR2 hk2 hk2' h2 hk3 hk3' hN1
  rw [ht3] at hW4 q4 hz3
  refine Lib.hid ?_
  go_wp2_with (go_at_call 93; refine hW4.mono ?_; rintro e w5 (⟨rfl, hle, rfl, hk5⟩ | ⟨hP5, rfl, hR5, hk5⟩); (exact ⟨rfl, close_pan rfl hle (hk4.trans hk5)⟩); (try dsimp only at hP5); have hk5' := hk4.trans hk5; have p3 := hk5.box q4 (by omega); have p2 := hk5.box g3' (by omega); have hN5 := hN1'.keep hk5 (fun q hq _ => by omega))
  have hz5 := block_lt p3
  have hC5 := hC.on hR5
  have hc6 := fun u (h : Ctx u B ts (j1 + 1)) => callU hP5 (fun r0 h0 => hE r0 B ts (j1 + 1) u h h0)
  clear ht3 hW4 hP5 hk5 hk4 q4 g3' hN1' g3 g2 hR3 hb3
  go_cut [4] (fun s4 wx => ∃ t4 n2 j2, s4 = .pointer (some ⟨t4, 0, none⟩) ∧ PB w wx B ts 26 n1 n2 t4 j2 ∧ need S.rp (rest ts j2) (fun l => .ok (nd 26 [n1, n2]) l) = some r)
  case first =>
    obtain ⟨c0, c1, c2, c3, f0, f1, f2, f3⟩ := in4 p3
    obtain ⟨x0, x1, x2, x3, y0, y1, y2, y3⟩ := in4a p3
    go_region_with (first
      | (go_at_call 154; refine (hc6 _ (hC5.below ((Below.refl _ _).drew))).mono ?_; rintro e w6 (⟨j, rfl, hle, rfl, hk6⟩ | ⟨n2, j2, b2, cap2, hP6, rfl, hN6, hR6, hk6⟩); (exact ⟨rfl, close_pan rfl hle ((hk5'.drew).trans hk6)⟩); have g3 := hk6.box p3 (by omega); have g2 := hk6.box p2 (by omega); obtain ⟨c0, c1, c2, c3, f0, f1, f2, f3⟩ := in4 g3; obtain ⟨x0, x1, x2, x3, y0, y1, y2, y3⟩ := in4a g3; have hNx : NdV (fun q => w.heap.size < q) w6 n1 (ndv n1 b1 cap1) := (hN5.below ((Below.refl _ _).drew)).keep hk6 (fun q hq _ => by omega); have hNy : NdV (fun q => w.heap.size < q) w6 n2 (ndv n2 b2 cap2) := hN6.weak (fun q hq _ => by simp at hq; omega); have hk6' := (hk5'.drew).trans hk6)
      | (go_at_call 154; refine (hc6 _ (hC5.below ((ext_alloc (Below.refl _ _) zbx).drew))).mono ?_; rintro e w6 (⟨j, rfl, hle, rfl, hk6⟩ | ⟨n2, j2, b2, cap2, hP6, rfl, hN6, hR6, hk6⟩); (exact ⟨rfl, close_pan rfl hle (((hk5'.alloc zbx).drew).trans hk6)⟩); have g3 := hk6.box (W := (w5.alloc zbx).drew) (block_alloc zbx p3) (by omega); have g2 := hk6.box (W := (w5.alloc zbx).drew) (block_alloc zbx p2) (by omega); have g4 := hk6.box (W := (w5.alloc zbx).drew) (alloc_new w5 zbx) (by omega); obtain ⟨c0, c1, c2, c3, f0, f1, f2, f3⟩ := in4 g3; obtain ⟨x0, x1, x2, x3, y0, y1, y2, y3⟩ := in4a g3; obtain ⟨u0, u1, u2, u3, v0, v1, v2, v3⟩ := in4a g4; have hNx : NdV (fun q => w.heap.size < q ∧ q ≠ w5.heap.size) w6 n1 (ndv n1 b1 cap1) := ((hN5.weak (S' := fun q => w.heap.size < q ∧ q ≠ w5.heap.size) (fun q hq hlt => ⟨hq, by omega⟩)).below ((ext_alloc (Below.refl _ _) zbx).drew)).keep hk6 (fun q hq _ => by omega); have hNy : NdV (fun q => w.heap.size < q ∧ q ≠ w5.heap.size) w6 n2 (ndv n2 b2 cap2) := hN6.weak (fun q hq _ => by simp at hq; omega); have hk6' := ((hk5'.alloc zbx).drew).trans hk6))
    all_goals
      go_wp2
      go_meet
      case rel => first
        | exact ⟨_, n2, j2, rfl, pb_A 26 hNx hNy g2 hR6 hk6', hP6⟩
        | exact ⟨_, n2, j2, rfl, pb_C 26 hNx hNy g2 hR6 hk6', hP6⟩
        | exact ⟨_, n2, j2, rfl, pb_B 26 hNx hNy g2 g4 (by omega) hBw hR6 hk6', hP6⟩
  case rest =>
    obtain ⟨t4, n2, j2, rfl, hPB, hr⟩ := hcut
    obtain ⟨b4, cap4, q4, hRow4, hown4⟩ := hPB.box
    have q2 := hPB.ans
    have hz4 := hPB.lt
    have hW7 := (hC.on hPB.R).wantsU pl_rp hr wc (Below.refl _ _)
    have hNN := hRow4.node 26 [] 0
    clear hc6 hr p3 p2 hN5 hk5'
    go_wp2_with (go_at_call 93; refine hW7.mono ?_; rintro e w8 (⟨rfl, hle, rfl, hk8⟩ | ⟨hP8, rfl, hR8, hk8⟩); (exact ⟨rfl, close_pan rfl hle (hPB.K.trans hk8)⟩); have g4 := hk8.box q4 (by omega); have g2 := hk8.box q2 (by omega); obtain ⟨c0, c1, c2, c3, f0, f1, f2, f3⟩ := in4 g4; obtain ⟨d0, d1, d2, d3, e0, e1, e2, e3⟩ := in4 g2)
    refine bodyPost_ret (res180 rfl (put4_same _ _ _ _ g2)) rfl ?_
    obtain rfl := Option.some.inj hP8
    exact close_ret (N := nd 26 [n1, n2]) rfl ((hNN.keep hk8 (fun q hq _ => by omega)).weak (fun q hq _ => ⟨.inr (by omega), by omega⟩)) hR8 (hPB.K.trans hk8) (Nat.le_refl _) hBw
end Go.Proofs.YtbofdfdmikhanaaGreatDoor
namespace Go.Proofs.YtbofdfdmikhanaaGreatDoor
open Go.RowKit
open Go

def DSt (f : Nat) : Prop := ∀ (r : PRes) (Fin : Nat → Prop) (g : Nd → List PT → PR) (B : Nat) (ts : List Tok) (i : Nat) (w : World), FinOK ts Fin r → Dr w B ts i false → (P f 8 nil0 0 (rest ts i)).on g = some r → Calls Tryz.prog 71 #[.pointer (some ⟨B, 0, none⟩)] w (NA no w B ts Fin r g)
def DBlk (f : Nat) : Prop := ∀ (r : PRes) (Fin : Nat → Prop) (g : Nd → List PT → PR) (B : Nat) (ts : List Tok) (i : Nat) (bad : Bool) (w : World), FinOK ts Fin r → Dr w B ts i bad → Fl ts Fin r i bad (fun l => (P f 7 (nd 4 []) 0 l).on g) → Calls Tryz.prog 34 #[.pointer (some ⟨B, 0, none⟩)] w (NA no w B ts Fin r g)
theorem res34 {tm : Array Value} {W : World} {B : Nat} {a b c d : Value} (h : tm[2]?.getD undef = .pointer (some ⟨B, 0, none⟩)) (hx : W.heap[B]? = some (.cells #[a, b, c, d] 24)) : (results Tryz.f34 tm).run Tryz.prog W = .ok (.agg #[a, b, c, d]) W := by
  obtain ⟨c0, c1, c2, c3, _, _, _, _⟩ := in4 hx
  simp [results, Tryz.results34, go_sem, h, c0, c1, c2, c3]
/-- Between two statements. -/
def BlI (f t : Nat) (w : World) (B : Nat) (ts : List Tok) (Fin : Nat → Prop) (r : PRes) (g : Nd → List PT → PR) (k : Nat) (wr : World) : Prop :=
  ∃ (ks : List Nd) (b : Option Addr) (cap j : Nat) (bad : Bool), wr.heap[t]? = some (nbx (nd 4 ks) b cap) ∧ wr.heap[w.heap.size]? = some zbx ∧ Row (fun q => w.heap.size < q ∧ q ≠ t) wr (.slice b ks.length cap) ks ∧ (∀ q, Value.ownBlock (.slice b ks.length cap) = some q → w.heap.size < q) ∧ Dr wr B ts j bad ∧ Keeps (fun k => k = B) w wr ∧ k ≤ f ∧ ks.length + k ≤ f ∧ Fl ts Fin r j bad (fun l => (P k 7 (nd 4 ks) 0 l).on g)
set_option maxRecDepth 20000 in
set_option maxHeartbeats 2000000 in
theorem dblock_of (f : Nat) (hf : f ≤ 90000) (hS : ∀ k, k < f → DSt k) : DBlk f := by
  intro r Fin g B ts i bad w hF hR hP
  obtain ⟨i0, hi0, hz0, hz1, hz2⟩ := info_parts info24
  have hBw := hR.lt
  have hb0 : Below w.heap.size w (w.alloc zbx) := ext_alloc (Below.refl _ _) _
  have h2 := alloc_new w zbx
  have hb1 := ext_alloc (Below.refl (w.alloc zbx).heap.size (w.alloc zbx)) (nbx (nd 4 []) none 0)
  have gt := alloc_new (w.alloc zbx) (nbx (nd 4 []) none 0)
  rw [World.size_alloc] at gt
  have hI : BlI f (w.heap.size + 1) w B ts Fin r g f ((w.alloc zbx).alloc (nbx (nd 4 []) none 0)) := ⟨[], none, 0, i, bad, gt, block_below hb1 h2, Row.nil _ _, fun q e => by simp [Value.ownBlock] at e, (hR.below hb0).below hb1, (Keeps.of_below hb0).trans (Keeps.of_below hb1), Nat.le_refl _, by simp, hP⟩
  obtain ⟨t, ht⟩ : ∃ t, w.heap.size + 1 = t := ⟨_, rfl⟩
  rw [ht] at hI
  have htw : w.heap.size < t := by omega
  clear hP hb1 gt
  go_enter Tryz.func34, Tryz.ntmps34
  go_wp2
  clear ht
  go_loopg [6] f (fun k _ wr => BlI f t w B ts Fin r g k wr)
  case atStart => exact hI
  case round =>
    obtain ⟨ks, b, cap, j, bad, p3, p2, hRow, hown, hR1, hk, hgf, hle, hFl⟩ := hrel
    clear hI
    have hz3 := block_lt p3
    have hz2' := block_lt p2
    obtain ⟨c0, c1, c2, c3, f0, f1, f2, f3⟩ := in4 p3
    obtain ⟨d0, d1, d2, d3, e0, e1, e2, e3⟩ := in4 p2
    obtain ⟨b', cap', s0, s1, s2, v1, v2⟩ := hR1.cells
    have hNw : NdV (fun q => (no q ∨ w.heap.size ≤ q) ∧ q ≠ w.heap.size) wr (nd 4 ks) (ndv (nd 4 ks) b cap) := (hRow.node 4 [] 0).weak (fun q hq _ => ⟨.inr (by omega), by omega⟩)
    rcases hFl with ⟨rfl, hFi⟩ | ⟨rfl, hP⟩
    · go_wp2
      refine bodyPost_ret (res34 rfl (put4_same _ _ _ _ p2)) rfl ?_
      exact na_close hNw hR1 hk (Nat.le_refl _) hBw (.inl ⟨rfl, hFi⟩)
    have hT := fun u (h : Dr u B ts j false) => text_any B ts j false u h
    rw [show txd ts j false = tx (rest ts j) from rfl] at hT
    cases gk with
    | zero => cases hP
    | succ k =>
    dsimp only at hP
    rw [P, ite_on] at hP
    by_cases he1 : tx (rest ts j) = W.end_
    · rw [if_pos (.inl he1)] at hP
      rw [he1] at hT
      clear he1
      go_wp2_with (go_at_call 32; refine (hT wr hR1).mono ?_; rintro e w2 ⟨rfl, hb2⟩; have q3 := block_below hb2 p3; have q2 := block_below hb2 p2; obtain ⟨c0, c1, c2, c3, f0, f1, f2, f3⟩ := in4 q3; obtain ⟨d0, d1, d2, d3, e0, e1, e2, e3⟩ := in4 q2)
      refine bodyPost_ret (res34 rfl (put4_same _ _ _ _ q2)) rfl ?_
      exact na_close (hNw.below hb2) (hR1.below hb2) (hk.trans (Keeps.of_below hb2)) (Nat.le_refl _) hBw (.inr ⟨rfl, hP⟩)
    have n1 : (tx (rest ts j) == [101, 110, 100]) = false := by simpa using he1
    by_cases he2 : tx (rest ts j) = W.else_
    · rw [if_pos (.inr he2)] at hP
      rw [he2] at hT
      clear he1 he2 n1
      go_wp2_with (first | (go_at_call 32; refine (hT wr hR1).mono ?_; rintro e w2 ⟨rfl, hb2⟩; have q3 := block_below hb2 p3; have q2 := block_below hb2 p2) | (go_at_call 32; refine (hT w2 (hR1.below hb2)).mono ?_; rintro e w3 ⟨rfl, hb3⟩; have hb23 := ext_trans hb2 hb3; have q33 := block_below hb3 q3; have q23 := block_below hb3 q2; obtain ⟨c0, c1, c2, c3, f0, f1, f2, f3⟩ := in4 q33; obtain ⟨d0, d1, d2, d3, e0, e1, e2, e3⟩ := in4 q23))
      refine bodyPost_ret (res34 rfl (put4_same _ _ _ _ q23)) rfl ?_
      exact na_close (hNw.below hb23) (hR1.below hb23) (hk.trans (Keeps.of_below hb23)) (Nat.le_refl _) hBw (.inr ⟨rfl, hP⟩)
    have n2 : (tx (rest ts j) == [101, 108, 115, 101]) = false := by simpa using he2
    rw [if_neg (by rintro (h | h); exact he1 h; exact he2 h), on_on] at hP
    obtain ⟨tt, htt⟩ : ∃ tt, tx (rest ts j) = tt := ⟨_, rfl⟩
    rw [htt] at hT n1 n2
    have hcall := fun u (hb : Below wr.heap.size wr u) => hS k (by omega) r Fin _ B ts j u hF (hR1.below hb) hP
    have hn1 : ks.length + 1 ≤ maxLen := by unfold maxLen; omega
    have hb1 : (ks.length + 1) * 56 ≤ 140737488355328 := by omega
    clear htt he1 he2 hP hS
    go_wp2_with (first | (go_at_call 32; refine (hT wr hR1).mono ?_; rintro e w2 ⟨rfl, hb2⟩) | (go_at_call 32; refine (hT w2 (hR1.below hb2)).mono ?_; rintro e w3 ⟨rfl, hb3⟩; have hb23 := ext_trans hb2 hb3) | (go_at_call 71; refine (hcall _ hb23).mono ?_; rintro e w4 ⟨x, bx, cx, j2, bad2, rfl, hN, hR4, hk4, hFl4⟩; refine Hid.out ?_))
    have hkA := (Keeps.of_below (S := fun q => q = B) hb23).trans hk4
    have q3 := hkA.box p3 (by omega)
    have q2 := hkA.box p2 (by omega)
    have hRow4 := hRow.keep hkA (fun q hq _ e => by omega)
    have hzA := hkA.size
    have hz3b := hb23.size
    have hb5 := ext_alloc (ext_alloc (Below.refl w4.heap.size w4) (nbx x bx cx)) (nbx x bx cx)
    have hnew := alloc_new (w4.alloc (nbx x bx cx)) (nbx x bx cx)
    rw [World.size_alloc] at hnew
    have q35 := block_below hb5 q3
    have q25 := block_below hb5 q2
    have hRow5 := hRow4.below hb5
    have hR5 := hR4.below hb5
    have hN5 := hN.below hb5
    have hk5 := (hk.trans hkA).trans (Keeps.of_below hb5)
    obtain ⟨_, _, _, hlt9⟩ := hRow.form
    obtain ⟨c0, c1, c2, c3, f0, f1, f2, f3⟩ := in4 q3
    obtain ⟨x0, x1, x2, x3, y0, y1, y2, y3⟩ := in4a q3
    clear hT hcall hRow4 hR4 hkA hk4 d0 d1 d2 d3 e0 e1 e2 e3 s0 s1 s2 v1 v2 hNw
    refine Lib.hid ?_
    go_wp2_with (at_builtin; refine Hid.out ?_)
    obtain ⟨W, hW⟩ : ∃ W, (w4.alloc (nbx x bx cx)).alloc (nbx x bx cx) = W := ⟨_, rfl⟩
    rw [hW] at hnew q35 q25 hRow5 hR5 hN5 hk5
    replace hW : (w4.alloc (.cells #[.int .i64 x.k, .string ⟨x.t.toArray⟩, .int .i64 x.n, .slice bx x.kids.length cx] 24)).alloc (.cells #[.int .i64 x.k, .string ⟨x.t.toArray⟩, .int .i64 x.n, .slice bx x.kids.length cx] 24) = W := hW
    rw [hW]
    obtain ⟨xs, ho, hs, hn⟩ := hRow5.own
    have hne3 : some t ≠ Value.ownBlock (.slice b ks.length cap) := fun e => (hs _ e.symm).2 rfl
    have hzW := block_lt hnew
    have hy : NdV (fun q => (w.heap.size < q ∧ q ≠ t) ∧ some q ≠ Value.ownBlock (.slice b ks.length cap)) W x (ndv x bx cx) := hN5.weak (fun q hq _ => by have := hq.resolve_left id; exact ⟨⟨by omega, by omega⟩, fun e => by have := (hlt9 q e.symm).2; omega⟩)
    clear hW hRow5 hN5 hN hRow c0 c1 c2 c3 f0 f1 f2 f3 x0 x1 x2 x3 y0 y1 y2 y3 q3 q2 hb5
    refine Lib.hid ?_
    go_wp2_with (at_builtin; refine wpList_append_lies _ (by rfl) _ _ _ (by rfl) 0 24 i0 _ 4 56 Tryz.underlying22 hi0 hz0 hz1 hz2 rfl (by omega) (.slice b ks.length cap) ks.length _ (by rfl) ho ⟨w4.heap.size + 1, 0, none⟩ 1 1 _ (by rfl) (by rfl) (cells_of x bx cx hnew) (by simp [Value.oneCell']) (by omega) hn1 hb1 (Nat.zero_le _) _ rfl ?_; intro g3 cap3 w5 hown1 hgrow hat1 hlt1; have p3w := (hgrow.block _ (block_lt q35) hne3).trans q35; obtain ⟨c0, c1, c2, c3, f0, f1, f2, f3⟩ := in4 p3w)
    obtain ⟨hRow6, g6, hk6, hown6⟩ := kids_step (lo := w.heap.size + 1) ho hs hn hy (fun q hq => hq.2) (fun q hq => ⟨by omega, by omega⟩) (fun q e => hown q e) (by omega) q35 hown1 hgrow hat1 rfl
    have z6 := hk6.box q25 (fun e => by rcases e with e | e; omega; have := (hs _ e.symm).1; omega)
    have hR6 := hR5.keep hk6 (fun q hq e => by rcases e with e | e; omega; have := hown q e.symm; omega)
    have hkw6 := hk5.then hk6 (fun q hq e => by rcases e with e | e; omega; have := hown q e.symm; omega)
    go_roundg k
    case measure => omega
    case rel => exact ⟨ks ++ [x], _, _, j2, bad2, g6, z6, hRow6, hown6, hR6, hkw6, by omega, by simp; omega, hFl4⟩
end Go.Proofs.YtbofdfdmikhanaaGreatDoor
