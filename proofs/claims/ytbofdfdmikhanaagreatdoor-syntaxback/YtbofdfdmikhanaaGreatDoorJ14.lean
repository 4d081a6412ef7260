/- The program's reader: what its methods answer, by what is read. Walks of package lex: a sign. -/
import Derived.Test.YtbofdfdmikhanaaGreatDoorJ07
import Derived.Test.YtbofdfdmikhanaaGreatDoorJ13
import Derived.Deep.LoopGhost
import Derived.Deep.RegionLaw
import Derived.Test.YtbofdfdmikhanaaGreatDoorJ04
namespace Go.Proofs.YtbofdfdmikhanaaGreatDoor
open Go.RowKit
open Go

abbrev PRes : Type := List PT ⊕ (Nd × List PT)
abbrev ndv (n : Nd) (b : Option Addr) (cap : Nat) : Value := .agg #[.int .i64 n.k, sk n.t, .int .i64 n.n, .slice b n.kids.length cap]
abbrev nbx (n : Nd) (b : Option Addr) (cap : Nat) : Obj := .cells #[.int .i64 n.k, sk n.t, .int .i64 n.n, .slice b n.kids.length cap] 24
abbrev zbx : Obj := .cells #[.int .i64 0, .string ⟨#[]⟩, .int .i64 0, .slice none 0 0] 24
/-- Four cells. -/
structure In4 (W : World) (B : Nat) (a b c d : Value) : Prop where
  c0 : W.cell? ⟨B, 0, none⟩ = some a
  c1 : W.cell? ⟨B, 1, none⟩ = some b
  c2 : W.cell? ⟨B, 2, none⟩ = some c
  c3 : W.cell? ⟨B, 3, none⟩ = some d
  f0 : W.frozen? ⟨B, 0, none⟩ = false
  f1 : W.frozen? ⟨B, 1, none⟩ = false
  f2 : W.frozen? ⟨B, 2, none⟩ = false
  f3 : W.frozen? ⟨B, 3, none⟩ = false
theorem in4 {W : World} {B : Nat} {a b c d : Value} (h : W.heap[B]? = some (.cells #[a, b, c, d] 24)) : In4 W B a b c d := ⟨cell_block h rfl, cell_block h rfl, cell_block h rfl, cell_block h rfl, frozen_block h, frozen_block h, frozen_block h, frozen_block h⟩
structure In4A (W : World) (B : Nat) (a b c d : Value) : Prop where
  c0 : ∀ o, (W.alloc o).cell? ⟨B, 0, none⟩ = some a
  c1 : ∀ o, (W.alloc o).cell? ⟨B, 1, none⟩ = some b
  c2 : ∀ o, (W.alloc o).cell? ⟨B, 2, none⟩ = some c
  c3 : ∀ o, (W.alloc o).cell? ⟨B, 3, none⟩ = some d
  f0 : ∀ o, (W.alloc o).frozen? ⟨B, 0, none⟩ = false
  f1 : ∀ o, (W.alloc o).frozen? ⟨B, 1, none⟩ = false
  f2 : ∀ o, (W.alloc o).frozen? ⟨B, 2, none⟩ = false
  f3 : ∀ o, (W.alloc o).frozen? ⟨B, 3, none⟩ = false
theorem in4a {W : World} {B : Nat} {a b c d : Value} (h : W.heap[B]? = some (.cells #[a, b, c, d] 24)) : In4A W B a b c d :=
  ⟨fun o => (in4 (block_alloc o h)).c0, fun o => (in4 (block_alloc o h)).c1, fun o => (in4 (block_alloc o h)).c2, fun o => (in4 (block_alloc o h)).c3, fun o => (in4 (block_alloc o h)).f0, fun o => (in4 (block_alloc o h)).f1, fun o => (in4 (block_alloc o h)).f2, fun o => (in4 (block_alloc o h)).f3⟩
abbrev put4 (W : World) (B : Nat) (a b c d : Value) : World := (((W.setCell ⟨B, 0, none⟩ a).setCell ⟨B, 1, none⟩ b).setCell ⟨B, 2, none⟩ c).setCell ⟨B, 3, none⟩ d
theorem put4_same {W : World} {B : Nat} {a b c d : Value} (a' b' c' d' : Value) (h : W.heap[B]? = some (.cells #[a, b, c, d] 24)) : (put4 W B a' b' c' d').heap[B]? = some (.cells #[a', b', c', d'] 24) := set_block _ (set_block _ (set_block _ (set_block _ h)))
theorem put4_keeps {S : Nat → Prop} {w W : World} (h : Keeps S w W) (B : Nat) (a b c d : Value) (hB : w.heap.size ≤ B) : Keeps S w (put4 W B a b c d) :=
  (((h.set B 0 a (fun h => by omega)).set B 1 b (fun h => by omega)).set B 2 c (fun h => by omega)).set B 3 d (fun h => by omega)
theorem put4_other {W : World} {B C : Nat} (a b c d : Value) (h : C ≠ B) : (put4 W B a b c d).heap[C]? = W.heap[C]? := (set1_other _ _ h).trans ((set1_other _ _ h).trans ((set1_other _ _ h).trans (set1_other _ _ h)))
theorem put4_self (W : World) (B : Nat) (a b c d : Value) : Keeps (fun k => k = B) W (put4 W B a b c d) :=
  ((((Keeps.refl (fun k => k = B) W).set B 0 a (fun _ => rfl)).set B 1 b (fun _ => rfl)).set B 2 c (fun _ => rfl)).set B 3 d (fun _ => rfl)
theorem NdV.put4 {S : Nat → Prop} {W : World} {x : Nd} {v : Value} (h : NdV S W x v) (B : Nat) (a b c d : Value) (hB : ∀ g, S g → g ≠ B) : NdV S (put4 W B a b c d) x v := h.keep (put4_self W B a b c d) (fun g hg _ => hB g hg)
theorem Rd.put4 {W : World} {B : Nat} {ts : List Tok} {i : Nat} (h : Rd W B ts i) (C : Nat) (a b c d : Value) (hC : B < C) : Rd (put4 W C a b c d) B ts i := h.keep (put4_self W C a b c d) (fun g hg => by omega)

/-- A reader that may go on. -/
structure Ctx (w : World) (B : Nat) (ts : List Tok) (i : Nat) : Prop where
  V : allV (ts.map pt)
  R : Rd w B ts i
theorem Ctx.below {w u : World} {B : Nat} {ts : List Tok} {i : Nat} (h : Ctx w B ts i) (hb : Below w.heap.size w u) : Ctx u B ts i := ⟨h.V, h.R.below hb⟩
theorem Ctx.on {w u : World} {B : Nat} {ts : List Tok} {i j : Nat} (h : Ctx w B ts i) (hR : Rd u B ts j) : Ctx u B ts j := ⟨h.V, hR⟩
theorem allV_rest {ts : List Tok} (h : allV (ts.map pt)) (i : Nat) : allV (rest ts i) := fun p hp => h p (by
  unfold rest at hp
  obtain ⟨x, hx, rfl⟩ := List.mem_map.1 hp
  exact List.mem_map.2 ⟨x, List.mem_of_mem_drop hx, rfl⟩)
theorem wd_rest (ts : List Tok) (i : Nat) : wd ts i = wdl (rest ts i) := by
  unfold wd
  cases h : ts[i]? with
  | none => rw [rest_end (List.getElem?_eq_none_iff.1 h)]; rfl
  | some x => rw [rest_cons h]; rfl
theorem Ctx.is {w : World} {B : Nat} {ts : List Tok} {i : Nat} (h : Ctx w B ts i) {s : List UInt8} (hs : plainS s) : wd ts i = s ↔ tx (rest ts i) = s := by
  rw [wd_rest]
  exact wdl_tx (allV_rest h.V i) hs
theorem tx_lt {ts : List Tok} {i : Nat} {s : List UInt8} (h : tx (rest ts i) = s) (hs : s ≠ []) : i < ts.length := by
  rcases Nat.lt_or_ge i ts.length with h' | h'
  · exact h'
  · rw [rest_end h'] at h
    exact absurd h.symm hs
theorem rest_tail (ts : List Tok) (i : Nat) : (rest ts i).tail = rest ts (i + 1) := by
  unfold rest
  rw [← List.map_tail, List.tail_drop]
theorem plain_ne {s : List UInt8} (h : plainS s) : s ≠ [] := by
  obtain ⟨c, r, rfl, _⟩ := h
  simp

abbrev no : Nat → Prop := fun _ => False
/-- What a method does. -/
def PAns (S : Nat → Prop) (w : World) (B : Nat) (ts : List Tok) (r : PRes) (e : Ending) (w' : World) : Prop :=
  match r with
  | .inl l => ∃ i, rest ts i = l ∧ i ≤ ts.length ∧ e = .panicked (pan (gv ts i)) ∧ Keeps (fun k => k = B) w w'
  | .inr (n, l) => ∃ i b cap, rest ts i = l ∧ e = .returned (ndv n b cap) ∧ NdV (fun g => S g ∨ w.heap.size ≤ g) w' n (ndv n b cap) ∧ Rd w' B ts i ∧ Keeps (fun k => k = B) w w'

/-- Two nodes, one behind the other in a new block, are a node's kids; it stands in a box. -/
theorem pair_box {D : Nat → Prop} {w2 : World} {t : Nat} {x y : Nd} {b b1 : Option Addr} {cap cap1 : Nat} {a0 a1 a2 a3 : Value} (k n : Int) (hx : NdV D w2 x (ndv x b cap)) (hy : NdV D w2 y (ndv y b1 cap1)) (hD : ∀ g, D g → g ≠ t) (hnew : D w2.heap.size) (g : w2.heap[t]? = some (.cells #[a0, a1, a2, a3] 24)) {W : World}
    (hW : put4 (w2.alloc (.cells #[.int .i64 x.k, sk x.t, .int .i64 x.n, .slice b x.kids.length cap, .int .i64 y.k, sk y.t, .int .i64 y.n, .slice b1 y.kids.length cap1] 24)) t (.int .i64 k) (sk []) (.int .i64 n) (.slice (some ⟨w2.heap.size, 0, none⟩) 2 2) = W) :
    NdV D W ⟨k, [], n, [x, y]⟩ (ndv ⟨k, [], n, [x, y]⟩ (some ⟨w2.heap.size, 0, none⟩) 2) ∧ W.heap[t]? = some (nbx ⟨k, [], n, [x, y]⟩ (some ⟨w2.heap.size, 0, none⟩) 2) ∧ Keeps (fun q => q = t) w2 W := by
  subst hW
  have hb := ext_alloc (Below.refl w2.heap.size w2) (.cells #[.int .i64 x.k, sk x.t, .int .i64 x.n, .slice b x.kids.length cap, .int .i64 y.k, sk y.t, .int .i64 y.n, .slice b1 y.kids.length cap1] 24)
  refine ⟨?_, put4_same _ _ _ _ (block_alloc _ g), (Keeps.of_below hb).trans (put4_self _ _ _ _ _ _)⟩
  refine NdV.put4 ?_ _ _ _ _ _ hD
  refine (Row.two hnew ?_ ?_ (alloc_new w2 _)).node k [] n
  · exact (hx.weak (S' := fun q => D q ∧ q ≠ w2.heap.size) (fun g hg hlt => ⟨hg, by omega⟩)).below hb
  · exact (hy.weak (S' := fun q => D q ∧ q ≠ w2.heap.size) (fun g hg hlt => ⟨hg, by omega⟩)).below hb
theorem one_box {D : Nat → Prop} {w2 : World} {t : Nat} {x : Nd} {b : Option Addr} {cap : Nat} {a0 a1 a2 a3 : Value} (k n : Int) (hx : NdV D w2 x (ndv x b cap)) (hD : ∀ g, D g → g ≠ t) (hnew : D w2.heap.size) (g : w2.heap[t]? = some (.cells #[a0, a1, a2, a3] 24)) {W : World}
    (hW : put4 (w2.alloc (nbx x b cap)) t (.int .i64 k) (sk []) (.int .i64 n) (.slice (some ⟨w2.heap.size, 0, none⟩) 1 1) = W) :
    Row D W (.slice (some ⟨w2.heap.size, 0, none⟩) 1 1) [x] ∧ W.heap[t]? = some (nbx ⟨k, [], n, [x]⟩ (some ⟨w2.heap.size, 0, none⟩) 1) ∧ Keeps (fun q => q = t) w2 W := by
  subst hW
  have hb := ext_alloc (Below.refl w2.heap.size w2) (nbx x b cap)
  refine ⟨?_, put4_same _ _ _ _ (block_alloc _ g), (Keeps.of_below hb).trans (put4_self _ _ _ _ _ _)⟩
  refine Row.keep ?_ (put4_self _ _ _ _ _ _) (fun g hg _ => hD g hg)
  exact Row.one hnew ((hx.weak (S' := fun q => D q ∧ q ≠ w2.heap.size) (fun g hg hlt => ⟨hg, by omega⟩)).below hb) (alloc_new w2 _)
theorem Keeps.box {S : Nat → Prop} {W W' : World} {t : Nat} {o : Obj} (hk : Keeps S W W') (g : W.heap[t]? = some o) (hn : ¬ S t) : W'.heap[t]? = some o := (hk.block t (block_lt g) hn).trans g
theorem cells_of (y : Nd) (b : Option Addr) (cap : Nat) {W : World} {g : Nat} (h : W.heap[g]? = some (nbx y b cap)) : ∀ j u, [Value.int .i64 y.k, sk y.t, .int .i64 y.n, .slice b y.kids.length cap][j]? = some u → W.cell? ((⟨g, 0, none⟩ : Addr).add j) = some u := World.news_of_block (cs := #[.int .i64 y.k, sk y.t, .int .i64 y.n, .slice b y.kids.length cap]) h
/-- One kid more, in the row and in the box. -/
theorem kids_step {D : Nat → Prop} {lo : Nat} {W w3 : World} {t : Nat} {A0 A1 A2 : Value} {ks : List Nd} {b : Option Addr} {cap : Nat} {y : Nd} {b1 : Option Addr} {cap1 : Nat} {xs : List Value} {g cap3 : Nat}
    (ho : W.ownsRow 0 24 4 (.slice b ks.length cap) ks.length xs) (hs : ∀ q, Value.ownBlock (.slice b ks.length cap) = some q → D q) (hn : ∀ j y, ks[j]? = some y → NdAt (fun g => D g ∧ some g ≠ Value.ownBlock (.slice b ks.length cap)) W y (fun i => if i < 4 then xs[j * 4 + i]? else none))
    (hy : NdV (fun q => D q ∧ some q ≠ Value.ownBlock (.slice b ks.length cap)) W y (ndv y b1 cap1)) (hD : ∀ q, D q → q ≠ t) (hnew : ∀ q, W.heap.size ≤ q → D q) (hlo : ∀ q, Value.ownBlock (.slice b ks.length cap) = some q → lo ≤ q) (hlo2 : lo ≤ W.heap.size)
    (hb : W.heap[t]? = some (.cells #[A0, A1, A2, .slice b ks.length cap] 24))
    (hown : w3.ownsRow 0 24 4 (.slice (some ⟨g, 0, none⟩) (ks.length + 1) cap3) (ks.length + 1) (xs ++ [.int .i64 y.k, sk y.t, .int .i64 y.n, .slice b1 y.kids.length cap1])) (hgrow : W.grownBy w3 (Value.ownBlock (.slice b ks.length cap))) (hat : Value.ownBlock (.slice b ks.length cap) = some g ∨ g = W.heap.size) {W4 : World}
    (hW4 : w3.setCell ⟨t, 3, none⟩ (.slice (some ⟨g, 0, none⟩) (ks.length + 1) cap3) = W4) :
    Row D W4 (.slice (some ⟨g, 0, none⟩) (ks ++ [y]).length cap3) (ks ++ [y]) ∧ W4.heap[t]? = some (.cells #[A0, A1, A2, .slice (some ⟨g, 0, none⟩) (ks ++ [y]).length cap3] 24) ∧ Keeps (fun q => q = t ∨ some q = Value.ownBlock (.slice b ks.length cap)) W W4 ∧ (∀ q, Value.ownBlock (.slice (some ⟨g, 0, none⟩) (ks ++ [y]).length cap3) = some q → lo ≤ q) := by
  subst hW4
  have hne : ¬ some t = Value.ownBlock (.slice b ks.length cap) := fun e => hD t (hs t e.symm) rfl
  have hset : Keeps (fun q => q = t) w3 (w3.setCell ⟨t, 3, none⟩ (.slice (some ⟨g, 0, none⟩) (ks.length + 1) cap3)) := (Keeps.refl _ _).set t 3 _ (fun _ => rfl)
  have el : (ks ++ [y]).length = ks.length + 1 := by simp
  rw [el]
  refine ⟨?_, set_block _ ((hgrow.block t (block_lt hb) hne).trans hb), ?_, fun q e => ?_⟩
  · exact (Row.snoc ho hs hn hy hown hgrow hat hnew).keep hset (fun q hq _ => hD q hq)
  · exact ((Keeps.grown hgrow).mono (fun q _ h => .inr h)).then hset (fun q _ h => .inl h)
  · have e3 : g = q := by simpa [Value.ownBlock] using e
    subst e3
    rcases hat with e | e
    · exact hlo g e
    · omega
/-- The answer's box. -/
theorem close_ret {D : Nat → Prop} {w : World} {B : Nat} {ts : List Tok} {N : Nd} {b : Option Addr} {cap : Nat} {l : List PT} {j : Nat} {W : World} {t : Nat} (hj : rest ts j = l) (hN : NdV (fun g => (D g ∨ w.heap.size ≤ g) ∧ g ≠ t) W N (ndv N b cap)) (hR : Rd W B ts j) (hk : Keeps (fun k => k = B) w W) (ht : w.heap.size ≤ t) (hB : B < w.heap.size) :
    PAns D w B ts (.inr (N, l)) (.returned (ndv N b cap)) (put4 W t (.int .i64 N.k) (sk N.t) (.int .i64 N.n) (.slice b N.kids.length cap)) :=
  ⟨j, b, cap, hj, rfl, (hN.put4 _ _ _ _ _ (fun g hg => hg.2)).weak (fun g hg _ => hg.1), hR.put4 _ _ _ _ _ (by omega), put4_keeps hk _ _ _ _ _ ht⟩
theorem close_pan {D : Nat → Prop} {w : World} {B : Nat} {ts : List Tok} {l : List PT} {j : Nat} {W : World} (hj : rest ts j = l) (hle : j ≤ ts.length) (hk : Keeps (fun k => k = B) w W) : PAns D w B ts (.inl l) (.panicked (pan (gv ts j))) W := ⟨j, hj, hle, rfl, hk⟩

/-- Words that come, or do not. -/
theorem Ctx.takes_no {w : World} {B : Nat} {ts : List Tok} {i : Nat} (h : Ctx w B ts i) {s : List UInt8} (hs : plainS s) (hc : ¬ tx (rest ts i) = s) (u : World) (hb : Below w.heap.size w u) : Calls Tryz.prog 96 #[.pointer (some ⟨B, 0, none⟩), sk s] u fun e w' => e = .returned (.bool false) ∧ Below u.heap.size u w' :=
  YtbofdfdmikhanaaGreatDoor.takes_no B ts i s (fun c => hc ((h.is hs).1 c)) u (h.R.below hb)
theorem Ctx.takes_yes {w : World} {B : Nat} {ts : List Tok} {i : Nat} (h : Ctx w B ts i) {s : List UInt8} (hs : plainS s) (hc : tx (rest ts i) = s) (u : World) (hb : Below w.heap.size w u) : Calls Tryz.prog 96 #[.pointer (some ⟨B, 0, none⟩), sk s] u fun e w' => e = .returned (.bool true) ∧ Rd w' B ts (i + 1) ∧ Keeps (fun k => k = B) u w' :=
  YtbofdfdmikhanaaGreatDoor.takes_yes B ts i s ((h.is hs).2 hc) (tx_lt hc (plain_ne hs)) u (h.R.below hb)
theorem Ctx.wants_no {w : World} {B : Nat} {ts : List Tok} {i : Nat} (h : Ctx w B ts i) {s : List UInt8} (hs : plainS s) (hc : ¬ tx (rest ts i) = s) (u : World) (hb : Below w.heap.size w u) : Calls Tryz.prog 93 #[.pointer (some ⟨B, 0, none⟩), .slice (some ⟨u.heap.size, 0, none⟩) 1 1] (u.alloc (.cells #[sk s] 9)) fun e w' => e = .panicked (pan (gv ts i)) ∧ Below u.heap.size u w' := by
  refine (YtbofdfdmikhanaaGreatDoor.wants_no B ts i s (fun c => hc ((h.is hs).1 c)) u.heap.size 1 _ (h.R.below (ext_alloc hb _)) (alloc_new u _)).mono ?_
  rintro e w1 ⟨rfl, hb1⟩
  exact ⟨rfl, ext_trans (ext_alloc (Below.refl _ _) _) hb1⟩
theorem Ctx.wants_yes {w : World} {B : Nat} {ts : List Tok} {i : Nat} (h : Ctx w B ts i) {s : List UInt8} (hs : plainS s) (hc : tx (rest ts i) = s) (u : World) (hb : Below w.heap.size w u) : Calls Tryz.prog 93 #[.pointer (some ⟨B, 0, none⟩), .slice (some ⟨u.heap.size, 0, none⟩) 1 1] (u.alloc (.cells #[sk s] 9)) fun e w' => e = .returned (.tuple #[]) ∧ Rd w' B ts (i + 1) ∧ Keeps (fun k => k = B) u w' := by
  refine (YtbofdfdmikhanaaGreatDoor.wants_yes B ts i s ((h.is hs).2 hc) (tx_lt hc (plain_ne hs)) u.heap.size 1 _ (h.R.below (ext_alloc hb _)) (alloc_new u _)).mono ?_
  rintro e w1 ⟨rfl, hR, hk⟩
  exact ⟨rfl, hR, (Keeps.of_below (ext_alloc (Below.refl _ _) _)).trans hk⟩

/-- The contracts, by how much is at hand. -/
def RowC (f : Nat) : Prop := ∀ (a : Nat) (r : PRes) (B : Nat) (ts : List Tok) (i : Nat) (w : World), a ≤ 6 → Ctx w B ts i → P f 0 nil0 a (rest ts i) = some r → Calls Tryz.prog 162 #[.pointer (some ⟨B, 0, none⟩), .int .i64 ((a + 1 : Nat) : Int)] w (PAns no w B ts r)
def ExprC (f : Nat) : Prop := ∀ (r : PRes) (B : Nat) (ts : List Tok) (i : Nat) (w : World), Ctx w B ts i → P f 0 nil0 0 (rest ts i) = some r → Calls Tryz.prog 154 #[.pointer (some ⟨B, 0, none⟩)] w (PAns no w B ts r)
theorem res154 {tm : Array Value} {W : World} {B : Nat} {a b c d : Value} (h : tm[2]?.getD undef = .pointer (some ⟨B, 0, none⟩)) (hx : W.heap[B]? = some (.cells #[a, b, c, d] 24)) : (results Tryz.f154 tm).run Tryz.prog W = .ok (.agg #[a, b, c, d]) W := by
  obtain ⟨c0, c1, c2, c3, _, _, _, _⟩ := in4 hx
  simp [results, Tryz.results154, go_sem, h, c0, c1, c2, c3]
set_option maxRecDepth 20000 in
set_option maxHeartbeats 1000000 in
theorem expr_of (f : Nat) (hRow : RowC f) : ExprC f := by
  intro r B ts i w hC hP
  have hE := hRow 0 r B ts i (w.alloc zbx) (by omega) (hC.below (ext_alloc (Below.refl _ _) _)) hP
  have h0 := alloc_new w zbx
  have hBw : B ≠ w.heap.size := by have := hC.R.lt; omega
  clear hRow hP
  cases r with
  | inl l =>
    go_enter Tryz.func154, Tryz.ntmps154
    go_wp2_with (go_at_call 162; refine hE.mono ?_; rintro e w1 ⟨j, hj, hle, rfl, hk⟩)
    exact ⟨rfl, j, hj, hle, rfl, (Keeps.of_below (ext_alloc (Below.refl _ _) _)).trans hk⟩
  | inr p =>
    obtain ⟨n, l⟩ := p
    go_enter Tryz.func154, Tryz.ntmps154
    go_wp2_with (go_at_call 162; refine hE.mono ?_; rintro e w1 ⟨j, b, cap, hj, rfl, hN, hR, hk⟩; have h1 := (hk.block _ (block_lt h0) (fun e => hBw e.symm)).trans h0; obtain ⟨c0, c1, c2, c3, f0, f1, f2, f3⟩ := in4 h1)
    refine bodyPost_ret (res154 rfl (put4_same _ _ _ _ h1)) rfl ⟨j, b, cap, hj, rfl, ?_, hR.put4 _ _ _ _ _ hC.R.lt, put4_keeps ((Keeps.of_below (ext_alloc (Below.refl _ _) _)).trans hk) _ _ _ _ _ (Nat.le_refl _)⟩
    exact (hN.put4 _ _ _ _ _ (fun g hg => by simp at hg; omega)).weak (fun g hg _ => by simp at hg; exact .inr (by omega))
end Go.Proofs.YtbofdfdmikhanaaGreatDoor
namespace Go.Proofs.YtbofdfdmikhanaaGreatDoor
open Go.RowKit
open Go

/-- What a reading of one token answers. -/
abbrev outV (k : Int) (t : ByteArray) (n : Nat) (e : Int) : Value := .tuple #[tokv k t 0, .int .i64 n, .int .i64 e]
def outR : TokR → Value
  | .inl e => outV 0 ⟨#[]⟩ 0 e
  | .inr (k, t, n) => outV k ⟨t.toArray⟩ n 0

theorem ba_list (s : ByteArray) : (⟨s.data.toList.toArray⟩ : ByteArray) = s := by
  obtain ⟨⟨l⟩⟩ := s
  simp

theorem index_neg (l : List UInt8) (c : UInt8) : Lib.indexByte l c < 0 ↔ l.contains c = false := by
  induction l with
  | nil => simp [Lib.indexByte]
  | cons b l ih =>
    have hg := Lib.indexByte_ge l c
    rw [Lib.indexByte, List.contains_cons]
    by_cases h : (b == c) = true
    · have h' : (c == b) = true := by simp at h ⊢; exact h.symm
      simp [h, h']
    · have h' : (c == b) = false := by simp at h ⊢; exact fun e => h e.symm
      have hf : (b == c) = false := by simpa using h
      rw [hf, h', Bool.false_or, ← ih]
      simp only [Bool.false_eq_true, if_false]
      by_cases k : Lib.indexByte l c = -1
      · simp [k]
      · have : (Lib.indexByte l c == -1) = false := by simpa using k
        rw [this]
        simp only [Bool.false_eq_true, if_false]
        omega
theorem index_le (l : List UInt8) (c : UInt8) : Lib.indexByte l c ≤ l.length := by
  induction l with
  | nil => simp [Lib.indexByte]
  | cons b l ih =>
    rw [Lib.indexByte]
    split
    · simp; omega
    · split
      · simp; omega
      · simp; omega

theorem res51 {tm : Array Value} {W : World} {B : Nat} {k : Int} {t : ByteArray} {a : Int} {n e : Int} (h : tm[2]?.getD undef = .pointer (some ⟨B, 0, none⟩)) (h3 : tm[3]?.getD undef = .int .i64 n) (h4 : tm[4]?.getD undef = .int .i64 e) (hx : W.heap[B]? = some (tbx k t a)) : (results Tryz.f63 tm).run Tryz.prog W = .ok (.tuple #[tokv k t a, .int .i64 n, .int .i64 e]) W := by
  obtain ⟨c0, c1, c2, _, _, _⟩ := in3 hx
  simp [results, Tryz.results63, go_sem, h, h3, h4, c0, c1, c2]

/-- What a sign's reading meets. -/
theorem sign_cases (c : UInt8) (r : List UInt8) :
    (Lib.hasPrefix (c :: r) [61, 61] = true ∧ signN (c :: r) = 2 ∧ (c :: r).take 2 = [61, 61]) ∨
    (Lib.hasPrefix (c :: r) [61, 61] = false ∧ Lib.hasPrefix (c :: r) [60, 61] = true ∧ signN (c :: r) = 2 ∧ (c :: r).take 2 = [60, 61]) ∨
    (Lib.hasPrefix (c :: r) [61, 61] = false ∧ Lib.hasPrefix (c :: r) [60, 61] = false ∧ Lib.hasPrefix (c :: r) [46, 46] = true ∧ signN (c :: r) = 2 ∧ (c :: r).take 2 = [46, 46]) ∨
    (Lib.hasPrefix (c :: r) [61, 61] = false ∧ Lib.hasPrefix (c :: r) [60, 61] = false ∧ Lib.hasPrefix (c :: r) [46, 46] = false ∧
      ((Lib.indexByte signs1 c < 0 ∧ signN (c :: r) = 0) ∨ (0 ≤ Lib.indexByte signs1 c ∧ signN (c :: r) = 1))) := by
  rw [pre2, pre2, pre2]
  by_cases h1 : (c :: r).take 2 = [61, 61]
  · left
    exact ⟨decide_eq_true h1, by simp only [signN, sign2, h1, decide_true, Bool.true_or, if_true], h1⟩
  by_cases h2 : (c :: r).take 2 = [60, 61]
  · right; left
    exact ⟨decide_eq_false h1, decide_eq_true h2, by simp only [signN, sign2, h2, decide_true, Bool.true_or, Bool.or_true, if_true], h2⟩
  by_cases h3 : (c :: r).take 2 = [46, 46]
  · right; right; left
    exact ⟨decide_eq_false h1, decide_eq_false h2, decide_eq_true h3, by simp only [signN, sign2, h3, decide_true, Bool.or_true, if_true], h3⟩
  right; right; right
  refine ⟨decide_eq_false h1, decide_eq_false h2, decide_eq_false h3, ?_⟩
  have hs : sign2 (c :: r) = false := by
    unfold sign2
    rw [decide_eq_false h1, decide_eq_false h2, decide_eq_false h3]
    rfl
  have hn := index_neg signs1 c
  simp only [signN, hs]
  cases hc : signs1.contains c
  · left
    exact ⟨hn.2 hc, by simp⟩
  · right
    refine ⟨?_, by simp⟩
    by_cases k : Lib.indexByte signs1 c < 0
    · rw [hn.1 k] at hc; cases hc
    · omega

def signsB : ByteArray := ⟨#[40, 41, 123, 125, 91, 93, 44, 59, 61, 60, 43, 45, 42, 47, 37, 35]⟩
theorem index_call (x : UInt8) (u : World) : Calls Tryz.prog 92 #[.string ⟨#[40, 41, 123, 125, 91, 93, 44, 59, 61, 60, 43, 45, 42, 47, 37, 35]⟩, .int .u8 (x.toNat : Int)] u fun e w' => e = .returned (.int .i64 (Lib.indexByte signs1 x)) ∧ w' = u := by
  have h := Tryz.strings_IndexByte ⟨#[40, 41, 123, 125, 91, 93, 44, 59, 61, 60, 43, 45, 42, 47, 37, 35]⟩ (x.toNat : Int) u
  have e : ((x.toNat : Int)).toNat.toUInt8 = x := by
    rw [Int.toNat_natCast]; exact UInt8.ofNat_toNat
  rw [e] at h
  exact h

theorem list_cons (s : ByteArray) (h : 0 < s.size) : ∃ c r, s.data.toList = c :: r ∧ s[0] = c ∧ ∀ k, s.data.toList.take (k + 1) = c :: r.take k := by
  obtain ⟨⟨l⟩⟩ := s
  cases l with
  | nil => simp [ByteArray.size] at h
  | cons c r => exact ⟨c, r, rfl, rfl, fun k => rfl⟩

def signV (l : List UInt8) : Value := if signN l = 0 then outV 0 ⟨#[]⟩ 0 2 else outV 4 ⟨(l.take (signN l)).toArray⟩ (signN l) 0
theorem signV_some {l t : List UInt8} {n : Nat} (h : signN l = n + 1) (ht : l.take (n + 1) = t) : signV l = outV 4 ⟨t.toArray⟩ (n + 1) 0 := by
  unfold signV
  rw [h, ht]
  rfl
theorem signV_none {l : List UInt8} (h : signN l = 0) : signV l = outV 0 ⟨#[]⟩ 0 2 := by
  unfold signV
  rw [h]
  rfl

abbrev longer : Value := .agg #[.string ⟨#[61, 61]⟩, .string ⟨#[60, 61]⟩, .string ⟨#[46, 46]⟩]
theorem idx0 (w : World) : (Instr.index 128 longer (.int .i64 0)).run Tryz.prog w = .ok (.string ⟨#[61, 61]⟩) w := by
  simp [Instr.index, run_underlying Tryz.underlying128, asIntOf, go_sem]
theorem idx1 (w : World) : (Instr.index 128 longer (.int .i64 1)).run Tryz.prog w = .ok (.string ⟨#[60, 61]⟩) w := by
  simp [Instr.index, run_underlying Tryz.underlying128, asIntOf, go_sem]
theorem idx2 (w : World) : (Instr.index 128 longer (.int .i64 2)).run Tryz.prog w = .ok (.string ⟨#[46, 46]⟩) w := by
  simp [Instr.index, run_underlying Tryz.underlying128, asIntOf, go_sem]

set_option maxRecDepth 20000 in
set_option maxHeartbeats 2000000 in
theorem sign_any (s : ByteArray) (hs : s.size ≤ 4000) (h0 : 0 < s.size) (w : World) :
    Calls Tryz.prog 63 #[.string s] w fun e w' => e = .returned (signV s.data.toList) ∧ Below w.heap.size w w' := by
  obtain ⟨c, r, hl, hc, htk⟩ := list_cons s h0
  have ht1 : Hid (s.data.toList.take 1 = [c]) := htk 0
  clear htk
  have hC := sign_cases c r
  rw [← hl] at hC
  have hlo : Hid _ := hl
  clear hl
  have i0 := idx0
  have i1 := idx1
  have i2 := idx2
  have hr := alloc_new w zeroTok
  have hb0 : Below w.heap.size w (w.alloc zeroTok) := (Below.refl _ _).alloc (Nat.le_refl _) _
  have hr1 := block_alloc (.cells #[.string ⟨#[61, 61]⟩, .string ⟨#[60, 61]⟩, .string ⟨#[46, 46]⟩] 128) hr
  have hb1 := ext_alloc hb0 (.cells #[.string ⟨#[61, 61]⟩, .string ⟨#[60, 61]⟩, .string ⟨#[46, 46]⟩] 128)
  rcases hC with ⟨e1, e2, e3⟩ | ⟨e1, e2, e3, e4⟩ | ⟨e1, e2, e3, e4, e5⟩ | ⟨e1, e2, e3, e4⟩
  · have hM := fun u => made_any 4 ⟨#[61, 61]⟩ (by decide) u
    have e2' : Hid _ := e2
    have e3' : Hid _ := e3
    clear e2 e3
    go_enter Tryz.func63, Tryz.ntmps63
    go_wp2
    refine wp_loop_rounds 4 ?_
    rw [rounds_succ]
    go_wp2_with (first | (go_at_call 58; refine (Tryz.strings_HasPrefix _ _ _).mono ?_; rintro e w' ⟨rfl, rfl⟩) | (go_at_call 90; refine (hM _).mono ?_; rintro e w2 ⟨rfl, hb2⟩; have hr2 := block_below hb2 hr1; obtain ⟨c0, c1, c2, f0, f1, f2⟩ := in3 hr2))
    refine bodyPost_ret (res51 rfl rfl rfl (put3_same 4 _ 0 hr2)) rfl ⟨?_, put3_below _ _ _ (ext_trans hb1 hb2) (Nat.le_refl _)⟩
    exact congrArg _ (signV_some e2'.out e3'.out).symm
  · have hM := fun u => made_any 4 ⟨#[60, 61]⟩ (by decide) u
    have e3' : Hid _ := e3
    have e4' : Hid _ := e4
    clear e3 e4
    go_enter Tryz.func63, Tryz.ntmps63
    go_wp2
    refine wp_loop_rounds 4 ?_
    rw [rounds_succ]
    go_wp2_with (go_at_call 58; refine (Tryz.strings_HasPrefix _ _ _).mono ?_; rintro e w' ⟨rfl, rfl⟩)
    rw [rounds_succ]
    go_wp2_with (first | (go_at_call 58; refine (Tryz.strings_HasPrefix _ _ _).mono ?_; rintro e w' ⟨rfl, rfl⟩) | (go_at_call 90; refine (hM _).mono ?_; rintro e w2 ⟨rfl, hb2⟩; have hr2 := block_below hb2 hr1; obtain ⟨c0, c1, c2, f0, f1, f2⟩ := in3 hr2))
    refine bodyPost_ret (res51 rfl rfl rfl (put3_same 4 _ 0 hr2)) rfl ⟨?_, put3_below _ _ _ (ext_trans hb1 hb2) (Nat.le_refl _)⟩
    exact congrArg _ (signV_some e3'.out e4'.out).symm
  · have hM := fun u => made_any 4 ⟨#[46, 46]⟩ (by decide) u
    have e4' : Hid _ := e4
    have e5' : Hid _ := e5
    clear e4 e5
    go_enter Tryz.func63, Tryz.ntmps63
    go_wp2
    refine wp_loop_rounds 4 ?_
    rw [rounds_succ]
    go_wp2_with (go_at_call 58; refine (Tryz.strings_HasPrefix _ _ _).mono ?_; rintro e w' ⟨rfl, rfl⟩)
    rw [rounds_succ]
    go_wp2_with (go_at_call 58; refine (Tryz.strings_HasPrefix _ _ _).mono ?_; rintro e w' ⟨rfl, rfl⟩)
    rw [rounds_succ]
    go_wp2_with (first | (go_at_call 58; refine (Tryz.strings_HasPrefix _ _ _).mono ?_; rintro e w' ⟨rfl, rfl⟩) | (go_at_call 90; refine (hM _).mono ?_; rintro e w2 ⟨rfl, hb2⟩; have hr2 := block_below hb2 hr1; obtain ⟨c0, c1, c2, f0, f1, f2⟩ := in3 hr2))
    refine bodyPost_ret (res51 rfl rfl rfl (put3_same 4 _ 0 hr2)) rfl ⟨?_, put3_below _ _ _ (ext_trans hb1 hb2) (Nat.le_refl _)⟩
    exact congrArg _ (signV_some e4'.out e5'.out).symm
  · have hI := fun u => index_call s[0] u
    rw [hc] at hI
    have hj1 := index_le signs1 c
    obtain ⟨j, hj⟩ : ∃ j, Lib.indexByte signs1 c = j := ⟨_, rfl⟩
    rw [hj] at hI e4 hj1
    have hj2 : j ≤ 16 := hj1
    clear hj hj1
    have hM := fun u => made_any 4 (s.extract 0 1) (by simp; omega) u
    have hs0 : (s[0].toNat : Int) = (c.toNat : Int) := by rw [hc]
    rcases e4 with ⟨k1, k2⟩ | ⟨k1, k2⟩
    · have k2' : Hid _ := k2
      clear k2
      go_enter Tryz.func63, Tryz.ntmps63
      go_wp2
      refine wp_loop_rounds 4 ?_
      rw [rounds_succ]
      go_wp2_with (go_at_call 58; refine (Tryz.strings_HasPrefix _ _ _).mono ?_; rintro e w' ⟨rfl, rfl⟩)
      rw [rounds_succ]
      go_wp2_with (go_at_call 58; refine (Tryz.strings_HasPrefix _ _ _).mono ?_; rintro e w' ⟨rfl, rfl⟩)
      rw [rounds_succ]
      go_wp2_with (go_at_call 58; refine (Tryz.strings_HasPrefix _ _ _).mono ?_; rintro e w' ⟨rfl, rfl⟩)
      rw [rounds_succ]
      go_wp2_with (go_at_call 92; refine (hI _).mono ?_; rintro e w' ⟨rfl, rfl⟩)
      exact bodyPost_ret (res51 rfl rfl rfl hr1) rfl ⟨congrArg _ (signV_none k2'.out).symm, hb1⟩
    · have k2' : Hid _ := k2
      clear k2
      go_enter Tryz.func63, Tryz.ntmps63
      go_wp2
      refine wp_loop_rounds 4 ?_
      rw [rounds_succ]
      go_wp2_with (go_at_call 58; refine (Tryz.strings_HasPrefix _ _ _).mono ?_; rintro e w' ⟨rfl, rfl⟩)
      rw [rounds_succ]
      go_wp2_with (go_at_call 58; refine (Tryz.strings_HasPrefix _ _ _).mono ?_; rintro e w' ⟨rfl, rfl⟩)
      rw [rounds_succ]
      go_wp2_with (go_at_call 58; refine (Tryz.strings_HasPrefix _ _ _).mono ?_; rintro e w' ⟨rfl, rfl⟩)
      rw [rounds_succ]
      go_wp2_with (first | (go_at_call 92; refine (hI _).mono ?_; rintro e w' ⟨rfl, rfl⟩) | (go_at_call 90; refine (hM _).mono ?_; rintro e w2 ⟨rfl, hb2⟩; have hr2 := block_below hb2 hr1; obtain ⟨c0, c1, c2, f0, f1, f2⟩ := in3 hr2))
      refine bodyPost_ret (res51 rfl rfl rfl (put3_same 4 _ 0 hr2)) rfl ⟨?_, put3_below _ _ _ (ext_trans hb1 hb2) (Nat.le_refl _)⟩
      rw [signV_some k2'.out rfl, ← take_list, ba_list]
      rfl
end Go.Proofs.YtbofdfdmikhanaaGreatDoor
