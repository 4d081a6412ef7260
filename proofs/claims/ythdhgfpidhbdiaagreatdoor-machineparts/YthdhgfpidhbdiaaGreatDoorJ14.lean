/- with: a pair put behind all others, in memory of its own. Set: what is wrong; what the new table is. -/
import Derived.Deep.RegionHeld3
import Derived.Deep.QuietTactic
import Derived.Test.YthdhgfpidhbdiaaGreatDoorJ12
import Derived.BigQuiet
import Derived.Deep.AppendLies
namespace Go.Proofs.YthdhgfpidhbdiaaGreatDoor
open Go.RowKit Go.Shelf
open Go

set_option linter.unusedSectionVars false
variable [DecidableEq Vl]

theorem info26 : (Tryz.prog.info? 30).map (fun i => (i.zero, i.size, i.bytes)) = some (some (.agg #[.int .i64 0, .int .i64 0, .string ⟨#[]⟩]), 3, 32) := by kernel_rfl

/-- A value's three cells. -/
abbrev trio (x : Vl) : List Value := [.int .i64 x.k, .int .i64 x.n, .string x.s]
def flat (xs : List Vl) : List Value := xs.flatMap trio
theorem flat_snoc (xs : List Vl) (x : Vl) : flat (xs ++ [x]) = flat xs ++ trio x := by simp [flat]
theorem flat_length (xs : List Vl) : (flat xs).length = xs.length * 3 := by
  induction xs with
  | nil => rfl
  | cons x xs ih => simp [flat] at ih ⊢; omega

/-- A table in memory that the call made. -/
structure Own2 (base : Nat) (W : World) (ks vs : Value) (xs ys : List Vl) : Prop where
  k : W.ownsRow base 30 3 ks xs.length (flat xs)
  v : W.ownsRow base 30 3 vs ys.length (flat ys)
  ne : ∀ b, ks.ownBlock = some b → vs.ownBlock ≠ some b

theorem own_ge {base : Nat} {W : World} {v : Value} {n : Nat} {xs : List Value} (h : W.ownsRow base 30 3 v n xs) {b : Nat} (hb : v.ownBlock = some b) : base ≤ b ∧ b < W.heap.size ∧ ∃ cur, W.heap[b]? = some (.cells cur 30) := by
  rcases h.2 with ⟨rfl, _⟩ | ⟨g, cap, cur, rfl, hge, hg, _⟩
  · simp [Value.ownBlock] at hb
  · obtain rfl : g = b := by simpa [Value.ownBlock] using hb
    exact ⟨hge, (Array.getElem?_eq_some_iff.1 hg).1, cur, hg⟩

theorem own_kept {base : Nat} {W W' : World} {v : Value} {n : Nat} {xs : List Value} (h : W.ownsRow base 30 3 v n xs) (hw : ∀ b, v.ownBlock = some b → W'.heap[b]? = W.heap[b]?) : W'.ownsRow base 30 3 v n xs := by
  refine ⟨h.1, ?_⟩
  rcases h.2 with h0 | ⟨g, cap, cur, rfl, hge, hg, hr⟩
  · exact .inl h0
  · exact .inr ⟨g, cap, cur, rfl, hge, (hw g rfl).trans hg, hr⟩

theorem Own2.kept {base : Nat} {W W' : World} {ks vs : Value} {xs ys : List Vl} (h : Own2 base W ks vs xs ys) (hw : ∀ b, (ks.ownBlock = some b ∨ vs.ownBlock = some b) → W'.heap[b]? = W.heap[b]?) : Own2 base W' ks vs xs ys :=
  ⟨own_kept h.k (fun b hb => hw b (.inl hb)), own_kept h.v (fun b hb => hw b (.inr hb)), h.ne⟩
theorem Own2.below {base : Nat} {W W' : World} {ks vs : Value} {xs ys : List Vl} (h : Own2 base W ks vs xs ys) (hb : Below W.heap.size W W') : Own2 base W' ks vs xs ys :=
  h.kept (fun b hb' => hb.block b (hb'.elim (fun e => (own_ge h.k e).2.1) (fun e => (own_ge h.v e).2.1)))

/-- What a call leaves as it was: all that lay but the two rows. -/
structure Fr (W W' : World) (ks vs : Value) : Prop where
  os : W'.os = W.os
  tape : W'.tape = W.tape
  output : W'.output = W.output
  size : W.heap.size ≤ W'.heap.size
  block : ∀ b, b < W.heap.size → ks.ownBlock ≠ some b → vs.ownBlock ≠ some b → W'.heap[b]? = W.heap[b]?

theorem Fr.of_below {W W' : World} (ks vs : Value) (h : Below W.heap.size W W') : Fr W W' ks vs := ⟨h.os, h.tape, h.output, h.size, fun b hb _ _ => h.block b hb⟩
theorem Fr.below {base : Nat} {W W' : World} {ks vs : Value} {xs ys : List Vl} (h : Fr W W' ks vs) (ho : Own2 base W ks vs xs ys) (hs : base ≤ W.heap.size) : Below base W W' :=
  ⟨h.os, h.tape, h.output, h.size, fun b hb => h.block b (by omega) (fun e => by have := (own_ge ho.k e).1; omega) (fun e => by have := (own_ge ho.v e).1; omega)⟩

set_option maxRecDepth 100000 in
set_option maxHeartbeats 2000000 in
theorem with_nil (a : Option Addr) (n1 c1 : Nat) (a' : Option Addr) (n2 c2 : Nat) (k v : Vl) (w : World) (h : (v.k == 0) = true) :
    Calls Tryz.prog 125 #[.agg #[.slice a n1 c1, .slice a' n2 c2], k.v, v.v] w fun e w' => e = .returned (.agg #[.slice a n1 c1, .slice a' n2 c2]) ∧ Below w.heap.size w w' := by
  go_enter Tryz.func125, Tryz.ntmps125
  go_wp2
  exact bodyPost_ret (v := .agg #[.slice a n1 c1, .slice a' n2 c2]) (by simp [results, Tryz.results125, go_sem]) rfl ⟨rfl, ((((Below.refl _ _).alloc (Nat.le_refl _) _).alloc (by simp) _).alloc (by simp; omega) _).alloc (by simp; omega) _⟩

/-- What lies in memory in with. -/
structure MW (w : World) (ks vs : Value) (k v : Vl) (u : World) : Prop where
  ht : u.heap[w.heap.size]? = some (.cells #[ks, vs] 57)
  hk : u.heap[w.heap.size + 1]? = some (bx k)
  hv : u.heap[w.heap.size + 1 + 1]? = some (bx v)
  hr : u.heap[w.heap.size + 1 + 1 + 1]? = some (.cells #[.slice none 0 0, .slice none 0 0] 57)
  fr : Fr w u ks vs

theorem MW.lt {w : World} {ks vs : Value} {k v : Vl} {u : World} (h : MW w ks vs k v u) : w.heap.size + 3 < u.heap.size := (Array.getElem?_eq_some_iff.1 h.hr).1
theorem MW.drew {w : World} {ks vs : Value} {k v : Vl} {u : World} (h : MW w ks vs k v u) : MW w ks vs k v u.drew := ⟨h.ht, h.hk, h.hv, h.hr, ⟨h.fr.os, h.fr.tape, h.fr.output, h.fr.size, h.fr.block⟩⟩
theorem MW.alloc {w : World} {ks vs : Value} {k v : Vl} {u : World} (h : MW w ks vs k v u) (o : Obj) : MW w ks vs k v (u.alloc o) :=
  ⟨block_alloc _ h.ht, block_alloc _ h.hk, block_alloc _ h.hv, block_alloc _ h.hr, ⟨h.fr.os, h.fr.tape, h.fr.output, by simp; exact Nat.le_succ_of_le h.fr.size, fun b hb h1 h2 => (Below.heap_alloc _ _ _ (Nat.lt_of_lt_of_le hb h.fr.size)).trans (h.fr.block b hb h1 h2)⟩⟩
theorem MW.grown {w : World} {ks vs : Value} {k v : Vl} {u u' : World} {row : Option Nat} (h : MW w ks vs k v u) (hg : u.grownBy u' row) (hrow : ∀ b, row = some b → b < w.heap.size ∧ (ks.ownBlock = some b ∨ vs.ownBlock = some b)) : MW w ks vs k v u' := by
  have hl := h.lt
  have far : ∀ b, w.heap.size ≤ b → b < u.heap.size → u'.heap[b]? = u.heap[b]? := fun b hb hb' => hg.block b hb' (fun e => by have := (hrow b e.symm).1; omega)
  refine ⟨(far _ (by omega) (by omega)).trans h.ht, (far _ (by omega) (by omega)).trans h.hk, (far _ (by omega) (by omega)).trans h.hv, (far _ (by omega) (by omega)).trans h.hr, ?_⟩
  refine ⟨hg.os.trans h.fr.os, hg.tape.trans h.fr.tape, hg.output.trans h.fr.output, Nat.le_trans h.fr.size hg.size, fun b hb h1 h2 => (hg.block b (by omega) (fun e => ?_)).trans (h.fr.block b hb h1 h2)⟩
  exact (hrow b e.symm).2.elim h1 h2

structure MWCells (w : World) (ks vs : Value) (k v : Vl) (u : World) : Prop where
  t0 : u.cell? ⟨w.heap.size, 0, none⟩ = some ks
  t1 : u.cell? ⟨w.heap.size, 1, none⟩ = some vs
  k0 : u.cell? ⟨w.heap.size + 1, 0, none⟩ = some (.int .i64 k.k)
  k1 : u.cell? ⟨w.heap.size + 1, 1, none⟩ = some (.int .i64 k.n)
  k2 : u.cell? ⟨w.heap.size + 1, 2, none⟩ = some (.string k.s)
  v0 : u.cell? ⟨w.heap.size + 1 + 1, 0, none⟩ = some (.int .i64 v.k)
  v1 : u.cell? ⟨w.heap.size + 1 + 1, 1, none⟩ = some (.int .i64 v.n)
  v2 : u.cell? ⟨w.heap.size + 1 + 1, 2, none⟩ = some (.string v.s)
  r0 : u.cell? ⟨w.heap.size + 1 + 1 + 1, 0, none⟩ = some (.slice none 0 0)
  r1 : u.cell? ⟨w.heap.size + 1 + 1 + 1, 1, none⟩ = some (.slice none 0 0)
  f0 : u.frozen? ⟨w.heap.size + 1 + 1 + 1, 0, none⟩ = false
  f1 : u.frozen? ⟨w.heap.size + 1 + 1 + 1, 1, none⟩ = false

theorem MW.cells {w : World} {ks vs : Value} {k v : Vl} {u : World} (h : MW w ks vs k v u) : MWCells w ks vs k v u :=
  ⟨cell_block h.ht rfl, cell_block h.ht rfl, (in3 h.hk).c0, (in3 h.hk).c1, (in3 h.hk).c2, (in3 h.hv).c0, (in3 h.hv).c1, (in3 h.hv).c2, cell_block h.hr rfl, cell_block h.hr rfl, frozen_block h.hr, frozen_block h.hr⟩

/-- The cells that are to be appended. -/
theorem news {W : World} {B : Nat} {x : Vl} (h : W.heap[B]? = some (bx x)) : ∀ j u, (trio x)[j]? = some u → W.cell? ((⟨B, 0, none⟩ : Addr).add j) = some u := World.news_of_block (cs := #[.int .i64 x.k, .int .i64 x.n, .string x.s]) h

theorem res27 {tm : Array Value} {W : World} {B : Nat} {a a' : Option Addr} {n n' c c' : Nat} (h : tm[6]?.getD undef = .pointer (some ⟨B, 0, none⟩)) (hx : W.heap[B]? = some (.cells #[.slice a n c, .slice a' n' c'] 57)) : (results Tryz.f125 tm).run Tryz.prog W = .ok (.agg #[.slice a n c, .slice a' n' c']) W := by
  have c0 : W.cell? ⟨B, 0, none⟩ = some (.slice a n c) := cell_block hx rfl
  have c1 : W.cell? ⟨B, 1, none⟩ = some (.slice a' n' c') := cell_block hx rfl
  simp [results, Tryz.results125, go_sem, h, c0, c1]

theorem newk (W1 : World) (k v : Vl) : ((W1.alloc (bx v)).alloc (bx k)).drew.heap[W1.heap.size + 1]? = some (bx k) := by
  have := World.alloc_heap_new (W1.alloc (bx v)) (bx k)
  simp only [World.size_alloc] at this
  exact this
theorem newv (W1 : World) (k v : Vl) : ((W1.alloc (bx k)).alloc (bx v)).drew.heap[W1.heap.size + 1]? = some (bx v) := by
  have := World.alloc_heap_new (W1.alloc (bx k)) (bx v)
  simp only [World.size_alloc] at this
  exact this
theorem own_drew {base : Nat} {W : World} {ks vs : Value} {xs ys : List Vl} (h : Own2 base W ks vs xs ys) : Own2 base W.drew ks vs xs ys := ⟨h.k, h.v, h.ne⟩
theorem own_alloc {base : Nat} {W : World} {ks vs : Value} {xs ys : List Vl} (h : Own2 base W ks vs xs ys) (o : Obj) : Own2 base (W.alloc o) ks vs xs ys := h.below ((Below.refl _ _).alloc (Nat.le_refl _) _)
theorem own_lt {base : Nat} {W : World} {ks vs : Value} {xs ys : List Vl} (h : Own2 base W ks vs xs ys) {b : Nat} (e : vs.ownBlock = some b) : b < W.heap.size := (own_ge h.v e).2.1

theorem far2 {w W1 u u' : World} {row : Option Nat} {P : Nat → Prop} {o : Obj} (hg : u.grownBy u' row) (hrow : ∀ b, row = some b → b < w.heap.size ∧ P b) (hs : w.heap.size ≤ W1.heap.size) (h : u.heap[W1.heap.size + 1]? = some o) : u'.heap[W1.heap.size + 1]? = some o :=
  (hg.block _ (Array.getElem?_eq_some_iff.1 h).1 (fun e => by have := (hrow _ e.symm).1; omega)).trans h
theorem far1 {w W1 u u' : World} {row : Option Nat} {P : Nat → Prop} {o : Obj} (hg : u.grownBy u' row) (hrow : ∀ b, row = some b → b < w.heap.size ∧ P b) (hs : w.heap.size ≤ W1.heap.size) (h : u.heap[W1.heap.size]? = some o) : u'.heap[W1.heap.size]? = some o :=
  (hg.block _ (Array.getElem?_eq_some_iff.1 h).1 (fun e => by have := (hrow _ e.symm).1; omega)).trans h

theorem with_end {base g cap g2 cap2 : Nat} {ks vs : Value} {xs ys : List Vl} {k v : Vl} {w w2 u2 w3 : World} {H : Nat} (ho : Own2 base w ks vs xs ys)
    (hown1 : w2.ownsRow base 30 3 (.slice (some ⟨g, 0, none⟩) (xs.length + 1) cap) (xs.length + 1) (flat xs ++ trio k)) (hown2 : w3.ownsRow base 30 3 (.slice (some ⟨g2, 0, none⟩) (ys.length + 1) cap2) (ys.length + 1) (flat ys ++ trio v))
    (hgrow2 : u2.grownBy w3 vs.ownBlock) (hu2 : Below w2.heap.size w2 u2) (hat : ks.ownBlock = some g ∨ g = H) (hH : w.heap.size ≤ H) (hlt : g < w2.heap.size) (hat2 : vs.ownBlock = some g2 ∨ g2 = u2.heap.size) (M3 : MW w ks vs k v w3) :
    Own2 base ((w3.setCell ⟨w.heap.size + 1 + 1 + 1, 0, none⟩ (.slice (some ⟨g, 0, none⟩) (xs.length + 1) cap)).setCell ⟨w.heap.size + 1 + 1 + 1, 1, none⟩ (.slice (some ⟨g2, 0, none⟩) (ys.length + 1) cap2)) (.slice (some ⟨g, 0, none⟩) (xs.length + 1) cap) (.slice (some ⟨g2, 0, none⟩) (ys.length + 1) cap2) (xs ++ [k]) (ys ++ [v]) ∧
    Fr w ((w3.setCell ⟨w.heap.size + 1 + 1 + 1, 0, none⟩ (.slice (some ⟨g, 0, none⟩) (xs.length + 1) cap)).setCell ⟨w.heap.size + 1 + 1 + 1, 1, none⟩ (.slice (some ⟨g2, 0, none⟩) (ys.length + 1) cap2)) ks vs := by
  have hvg : vs.ownBlock ≠ some g := by
    rcases hat with h | h
    · exact ho.ne g h
    · intro e
      have := (own_ge ho.v e).2.1
      omega
  have hgg : g ≠ g2 := by
    rcases hat2 with h | h
    · rintro rfl; exact hvg h
    · have := hu2.size; omega
  have h1 : w3.ownsRow base 30 3 (.slice (some ⟨g, 0, none⟩) (xs.length + 1) cap) (xs.length + 1) (flat xs ++ trio k) := own_kept hown1 (fun b e => by
    obtain rfl : g = b := by simpa [Value.ownBlock] using e
    exact (hgrow2.block g (Nat.lt_of_lt_of_le hlt hu2.size) (fun e' => hvg e'.symm)).trans (hu2.block g hlt))
  have ne3 : ∀ b, (∃ cur, w3.heap[b]? = some (.cells cur 30)) → b ≠ w.heap.size + 1 + 1 + 1 := by
    rintro b ⟨cur, hc⟩ rfl
    rw [M3.hr] at hc
    cases hc
  have n1 := ne3 g (own_ge h1 rfl).2.2
  have n2 := ne3 g2 (own_ge hown2 rfl).2.2
  refine ⟨⟨?_, ?_, ?_⟩, ?_⟩
  · rw [flat_snoc, List.length_append]
    exact own_kept h1 (fun b e => by
      obtain rfl : g = b := by simpa [Value.ownBlock] using e
      exact (set1_other _ _ n1).trans (set1_other _ _ n1))
  · rw [flat_snoc, List.length_append]
    exact own_kept hown2 (fun b e => by
      obtain rfl : g2 = b := by simpa [Value.ownBlock] using e
      exact (set1_other _ _ n2).trans (set1_other _ _ n2))
  · intro b e e'
    simp [Value.ownBlock] at e e'
    omega
  · exact ⟨M3.fr.os, M3.fr.tape, M3.fr.output, Nat.le_trans M3.fr.size (Nat.le_trans (KeepsOthers.setCell _ _ _).size (KeepsOthers.setCell _ _ _).size), fun b hb h1 h2 => ((set1_other _ _ (by omega)).trans (set1_other _ _ (by omega))).trans (M3.fr.block b hb h1 h2)⟩

set_option maxRecDepth 100000 in
set_option maxHeartbeats 4000000 in
theorem with_more (base : Nat) (ks vs : Value) (xs ys : List Vl) (k v : Vl) (w : World) (ho : Own2 base w ks vs xs ys) (hb : base ≤ w.heap.size) (hx : xs.length ≤ 200) (hy : ys.length ≤ 200) (h : (v.k == 0) = false) :
    Calls Tryz.prog 125 #[.agg #[ks, vs], k.v, v.v] w fun e w' => ∃ ks' vs', e = .returned (.agg #[ks', vs']) ∧ Own2 base w' ks' vs' (xs ++ [k]) (ys ++ [v]) ∧ Fr w w' ks vs := by
  obtain ⟨i0, hi0, hz0, hz1, hz2⟩ := info_parts info26
  obtain ⟨a, n1, c1, rfl⟩ : ∃ a n c, ks = .slice a n c := by rcases ho.k.2 with ⟨rfl, _⟩ | ⟨g, cap, cur, rfl, _⟩ <;> exact ⟨_, _, _, rfl⟩
  obtain ⟨a', n2, c2, rfl⟩ : ∃ a n c, vs = .slice a n c := by rcases ho.v.2 with ⟨rfl, _⟩ | ⟨g, cap, cur, rfl, _⟩ <;> exact ⟨_, _, _, rfl⟩
  obtain ⟨W1, hW1⟩ : ∃ W1, (((w.alloc (.cells #[.slice a n1 c1, .slice a' n2 c2] 57)).alloc (bx k)).alloc (bx v)).alloc (.cells #[.slice none 0 0, .slice none 0 0] 57) = W1 := ⟨_, rfl⟩
  have M0 : MW w (.slice a n1 c1) (.slice a' n2 c2) k v W1 := by
    subst hW1
    refine ⟨block_alloc _ (block_alloc _ (block_alloc _ (World.alloc_heap_new w _))), ?_, ?_, ?_, Fr.of_below _ _ (((((Below.refl _ _).alloc (Nat.le_refl _) _).alloc (by simp) _).alloc (by simp; omega) _).alloc (by simp; omega) _)⟩
    · have := block_alloc (.cells #[.slice none 0 0, .slice none 0 0] 57) (block_alloc (bx v) (World.alloc_heap_new (w.alloc (.cells #[.slice a n1 c1, .slice a' n2 c2] 57)) (bx k)))
      simpa only [World.size_alloc] using this
    · have := block_alloc (.cells #[.slice none 0 0, .slice none 0 0] 57) (World.alloc_heap_new ((w.alloc (.cells #[.slice a n1 c1, .slice a' n2 c2] 57)).alloc (bx k)) (bx v))
      simpa only [World.size_alloc] using this
    · have := World.alloc_heap_new (((w.alloc (.cells #[.slice a n1 c1, .slice a' n2 c2] 57)).alloc (bx k)).alloc (bx v)) (.cells #[.slice none 0 0, .slice none 0 0] 57)
      simpa only [World.size_alloc] using this
  have hbw : Below w.heap.size w W1 := by subst hW1; exact ((((Below.refl _ _).alloc (Nat.le_refl _) _).alloc (by simp) _).alloc (by simp; omega) _).alloc (by simp; omega) _
  have ho1 := ho.below hbw
  have hrk : ∀ b, (Value.slice a n1 c1).ownBlock = some b → b < w.heap.size ∧ ((Value.slice a n1 c1).ownBlock = some b ∨ (Value.slice a' n2 c2).ownBlock = some b) := fun b e => ⟨(own_ge ho.k e).2.1, .inl e⟩
  have hrv : ∀ b, (Value.slice a' n2 c2).ownBlock = some b → b < w.heap.size ∧ ((Value.slice a n1 c1).ownBlock = some b ∨ (Value.slice a' n2 c2).ownBlock = some b) := fun b e => ⟨(own_ge ho.v e).2.1, .inr e⟩
  have hsz : base ≤ W1.heap.size := Nat.le_trans hb hbw.size
  have hszw := hbw.size
  have hn1 : xs.length + 1 ≤ maxLen := by unfold maxLen; omega
  have hb1 : (xs.length + 1) * 32 ≤ 140737488355328 := by omega
  have hn2 : ys.length + 1 ≤ maxLen := by unfold maxLen; omega
  have hb2 : (ys.length + 1) * 32 ≤ 140737488355328 := by omega
  replace hW1 : Hid _ := hW1
  replace hrk : Hid _ := hrk
  replace hrv : Hid _ := hrv
  replace ho : Hid _ := ho
  obtain ⟨t0, t1, k0, k1, k2, v0, v1, v2, r0, r1, f0, f1⟩ := M0.cells
  go_enter Tryz.func125, Tryz.ntmps125
  go_wp2
  have e1 := hW1.out
  dsimp only [bx] at e1
  rw [e1]
  clear e1 hbw
  have nn0 : ¬ w.heap.size = w.heap.size + 1 + 1 + 1 := by omega
  have nn1 : ¬ w.heap.size + 1 = w.heap.size + 1 + 1 + 1 := by omega
  have nn2 : ¬ w.heap.size + 1 + 1 + 1 = w.heap.size := by omega
  have nn4 : ¬ w.heap.size = w.heap.size + 1 + 1 := by omega
  have nn5 : ¬ w.heap.size + 1 + 1 = w.heap.size := by omega
  have nn3 : ¬ w.heap.size + 1 + 1 + 1 = w.heap.size + 1 := by omega
  go_region_held3 (fun u => u.cell? ⟨w.heap.size, 0, none⟩ = some (.slice a n1 c1) ∧ u.cell? ⟨w.heap.size, 1, none⟩ = some (.slice a' n2 c2) ∧ u.cell? ⟨w.heap.size + 1, 0, none⟩ = some (.int .i64 k.k) ∧ u.cell? ⟨w.heap.size + 1, 1, none⟩ = some (.int .i64 k.n) ∧ u.cell? ⟨w.heap.size + 1, 2, none⟩ = some (.string k.s) ∧ u.cell? ⟨w.heap.size + 1 + 1, 0, none⟩ = some (.int .i64 v.k) ∧ u.cell? ⟨w.heap.size + 1 + 1, 1, none⟩ = some (.int .i64 v.n) ∧ u.cell? ⟨w.heap.size + 1 + 1, 2, none⟩ = some (.string v.s)) (go_keep)
    (first
      | (refine step_append_lies _ (by rfl) _ _ _ (by rfl) base 30 i0 _ 3 32 Tryz.underlying48 hi0 hz0 hz1 hz2 rfl (by omega) (.slice a n1 c1) xs.length (flat xs) (by rfl) (own_drew (own_alloc ho1 (bx k))).k ⟨W1.heap.size, 0, none⟩ 1 1 (trio k) (by rfl) (by rfl) (news (W := (W1.alloc (bx k)).drew) (World.alloc_heap_new W1 (bx k))) (by simp [Value.oneCell']) (by omega) hn1 hb1 (by simp; omega) _ rfl ?_; intro g cap w2 hown1 hgrow hat hlt; have M2 := MW.grown (M0.alloc (bx k)).drew hgrow hrk.out; have hV2 := own_kept (own_drew (own_alloc ho1 (bx k))).v (fun b e => hgrow.block b (own_lt (own_drew (own_alloc ho1 (bx k))) e) (fun e' => ho1.ne b e'.symm e)); obtain ⟨t0', t1', k0', k1', k2', v0', v1', v2', r0', r1', f0', f1'⟩ := M2.cells)
      | (refine step_append_lies _ (by rfl) _ _ _ (by rfl) base 30 i0 _ 3 32 Tryz.underlying48 hi0 hz0 hz1 hz2 rfl (by omega) (.slice a n1 c1) xs.length (flat xs) (by rfl) (own_drew (own_alloc (own_alloc ho1 (bx k)) (bx v))).k ⟨W1.heap.size, 0, none⟩ 1 1 (trio k) (by rfl) (by rfl) (news (W := ((W1.alloc (bx k)).alloc (bx v)).drew) (block_alloc (bx v) (World.alloc_heap_new W1 (bx k)))) (by simp [Value.oneCell']) (by omega) hn1 hb1 (by simp; omega) _ rfl ?_; intro g cap w2 hown1 hgrow hat hlt; have M2 := MW.grown ((M0.alloc (bx k)).alloc (bx v)).drew hgrow hrk.out; have hV2 := own_kept (own_drew (own_alloc (own_alloc ho1 (bx k)) (bx v))).v (fun b e => hgrow.block b (own_lt (own_drew (own_alloc (own_alloc ho1 (bx k)) (bx v))) e) (fun e' => ho1.ne b e'.symm e)); obtain ⟨t0', t1', k0', k1', k2', v0', v1', v2', r0', r1', f0', f1'⟩ := M2.cells)
      | (refine step_append_lies _ (by rfl) _ _ _ (by rfl) base 30 i0 _ 3 32 Tryz.underlying48 hi0 hz0 hz1 hz2 rfl (by omega) (.slice a n1 c1) xs.length (flat xs) (by rfl) (own_drew (own_alloc (own_alloc ho1 (bx v)) (bx k))).k ⟨W1.heap.size + 1, 0, none⟩ 1 1 (trio k) (by rfl) (by rfl) (news (newk W1 k v)) (by simp [Value.oneCell']) (by omega) hn1 hb1 (by simp; omega) _ rfl ?_; intro g cap w2 hown1 hgrow hat hlt; have M2 := MW.grown ((M0.alloc (bx v)).alloc (bx k)).drew hgrow hrk.out; have hV2 := own_kept (own_drew (own_alloc (own_alloc ho1 (bx v)) (bx k))).v (fun b e => hgrow.block b (own_lt (own_drew (own_alloc (own_alloc ho1 (bx v)) (bx k))) e) (fun e' => ho1.ne b e'.symm e)); obtain ⟨t0', t1', k0', k1', k2', v0', v1', v2', r0', r1', f0', f1'⟩ := M2.cells)
      | (refine step_append_lies _ (by rfl) _ _ _ (by rfl) base 30 i0 _ 3 32 Tryz.underlying48 hi0 hz0 hz1 hz2 rfl (by omega) (.slice a' n2 c2) ys.length (flat ys) (by rfl) (World.ownsRow.alloc hV2 (bx v)) ⟨w2.heap.size, 0, none⟩ 1 1 (trio v) (by rfl) (by rfl) (news (World.alloc_heap_new w2 (bx v))) (by simp [Value.oneCell']) (by omega) hn2 hb2 (by have := M2.lt; simp; omega) _ rfl ?_; intro g2 cap2 w3 hown2 hgrow2 hat2 hlt2; have M3 := MW.grown (M2.alloc (bx v)) hgrow2 hrv.out; obtain ⟨t0', t1', k0', k1', k2', v0', v1', v2', r0', r1', f0', f1'⟩ := M3.cells)
      | (refine step_append_lies _ (by rfl) _ _ _ (by rfl) base 30 i0 _ 3 32 Tryz.underlying48 hi0 hz0 hz1 hz2 rfl (by omega) (.slice a' n2 c2) ys.length (flat ys) (by rfl) hV2 ⟨W1.heap.size + 1, 0, none⟩ 1 1 (trio v) (by rfl) (by rfl) (news (far2 hgrow hrk.out hszw (newv W1 k v))) (by simp [Value.oneCell']) (by omega) hn2 hb2 (by have := M2.lt; omega) _ rfl ?_; intro g2 cap2 w3 hown2 hgrow2 hat2 hlt2; have M3 := MW.grown M2 hgrow2 hrv.out; obtain ⟨t0', t1', k0', k1', k2', v0', v1', v2', r0', r1', f0', f1'⟩ := M3.cells)
      | (refine step_append_lies _ (by rfl) _ _ _ (by rfl) base 30 i0 _ 3 32 Tryz.underlying48 hi0 hz0 hz1 hz2 rfl (by omega) (.slice a' n2 c2) ys.length (flat ys) (by rfl) hV2 ⟨W1.heap.size, 0, none⟩ 1 1 (trio v) (by rfl) (by rfl) (news (far1 hgrow hrk.out hszw (u := ((W1.alloc (bx v)).alloc (bx k)).drew) (block_alloc (bx k) (World.alloc_heap_new W1 (bx v))))) (by simp [Value.oneCell']) (by omega) hn2 hb2 (by have := M2.lt; omega) _ rfl ?_; intro g2 cap2 w3 hown2 hgrow2 hat2 hlt2; have M3 := MW.grown M2 hgrow2 hrv.out; obtain ⟨t0', t1', k0', k1', k2', v0', v1', v2', r0', r1', f0', f1'⟩ := M3.cells))
  · go_wp2
    exact bodyPost_ret (res27 rfl (set_block _ (set_block _ M3.hr))) rfl ⟨_, _, rfl, with_end ho.out hown1 hown2 hgrow2 ((Below.refl _ _).alloc (Nat.le_refl _) _) hat (by simp; omega) hlt hat2 M3⟩
  · go_wp2
    exact bodyPost_ret (res27 rfl (set_block _ (set_block _ M3.hr))) rfl ⟨_, _, rfl, with_end ho.out hown1 hown2 hgrow2 (Below.refl _ _) hat (by simp; omega) hlt hat2 M3⟩
  · go_wp2
    exact bodyPost_ret (res27 rfl (set_block _ (set_block _ M3.hr))) rfl ⟨_, _, rfl, with_end ho.out hown1 hown2 hgrow2 (Below.refl _ _) hat (by simp; omega) hlt hat2 M3⟩

end Go.Proofs.YthdhgfpidhbdiaaGreatDoor
namespace Go.Proofs.YthdhgfpidhbdiaaGreatDoor
open Go.RowKit Go.Shelf
open Go

set_option linter.unusedSectionVars false
variable [DecidableEq Vl]

/-- A pair with the new value, where its key is k. -/
def swap (k v : Vl) (p : Vl × Vl) : Vl × Vl := if p.1 = k then (p.1, v) else p
/-- Nil under a key is no pair. -/
def full (p : Vl × Vl) : Bool := !(p.2.k == 0)
/-- The pairs so far. -/
def part (k v : Vl) (zs : List (Vl × Vl)) : List (Vl × Vl) := (zs.map (swap k v)).filter full
def met (k : Vl) (zs : List (Vl × Vl)) : Bool := zs.any (fun p => decide (p.1 = k))
/-- The new pairs. -/
def setZ (k v : Vl) (zs : List (Vl × Vl)) : List (Vl × Vl) := part k v zs ++ (if met k zs = true then [] else [(k, v)].filter full)
/-- What Set answers: the pairs, and what is wrong. -/
def setT (xs ys : List Vl) (k v : Vl) : List (Vl × Vl) × Int :=
  if ¬ (mayT xs ys = true ∧ mayB k.k k.n k.s = true ∧ mayB v.k v.n v.s = true) then ([], 2)
  else if k.k = 0 then ([], 3)
  else if 100 < (setZ k v (xs.zip ys)).length then ([], 1) else (setZ k v (xs.zip ys), 0)

theorem part_snoc (k v : Vl) (zs : List (Vl × Vl)) (p : Vl × Vl) : part k v (zs ++ [p]) = part k v zs ++ [swap k v p].filter full := by simp [part]
theorem met_snoc (k : Vl) (zs : List (Vl × Vl)) (p : Vl × Vl) : met k (zs ++ [p]) = (met k zs || decide (p.1 = k)) := by simp [met]
theorem part_length (k v : Vl) (zs : List (Vl × Vl)) : (part k v zs).length ≤ zs.length := by
  have := List.length_filter_le full (zs.map (swap k v))
  simpa [part] using this

theorem flat_get {xs : List Vl} {j : Nat} {x : Vl} (h : xs[j]? = some x) (i : Nat) (hi : i < 3) : (flat xs)[j * 3 + i]? = (trio x)[i]? := by
  induction xs generalizing j with
  | nil => simp at h
  | cons y xs ih =>
    cases j with
    | zero =>
      simp at h
      subst h
      simp only [flat, List.flatMap_cons]
      rw [List.getElem?_append_left (by simp; omega)]
      congr 1
      omega
    | succ j =>
      simp at h
      simp only [flat, List.flatMap_cons]
      rw [List.getElem?_append_right (by simp; omega)]
      have := ih h
      rw [← this]
      simp only [flat]
      congr 1
      simp
      omega

theorem row_of_own {base : Nat} {W : World} {v : Value} {xs : List Vl} (h : W.ownsRow base 30 3 v xs.length (flat xs)) : Row W.heap.size W v xs := by
  rcases h.2 with ⟨rfl, h0⟩ | ⟨g, cap, cur, rfl, _, hg, hn, hm, _, ht⟩
  · have : xs = [] := List.length_eq_zero_iff.1 h0
    subst this
    exact ⟨none, 0, rfl, by simp, fun h => absurd rfl h⟩
  · refine ⟨some ⟨g, 0, none⟩, cap, rfl, by omega, fun _ => ⟨g, 0, rfl, (Array.getElem?_eq_some_iff.1 hg).1, fun j x hj => ?_⟩⟩
    have hjl : j < xs.length := (List.getElem?_eq_some_iff.1 hj).1
    have cell : ∀ i, i < 3 → W.cell? ⟨g, 0 + j * 3 + i, none⟩ = (trio x)[i]? := fun i hi => by
      rw [← flat_get hj i hi, ← ht]
      rw [List.getElem?_take_of_lt (by omega)]
      simp [World.cell?, hg]
    exact ⟨cell 0 (by omega), cell 1 (by omega), cell 2 (by omega)⟩

abbrev zeroT : Obj := .cells #[.slice none 0 0, .slice none 0 0] 57

/-- What lies in memory when Set has begun. -/
theorem set_mem (w : World) (o0 : Obj) (k v : Vl) {W1 : World} (hW : (((w.alloc o0).alloc (bx k)).alloc (bx v)).alloc zeroT = W1) :
    W1.heap.size = w.heap.size + 4 ∧ Below w.heap.size w W1 ∧ W1.heap[w.heap.size]? = some o0 ∧ W1.heap[w.heap.size + 1]? = some (bx k) ∧ W1.heap[w.heap.size + 1 + 1]? = some (bx v) ∧ W1.heap[w.heap.size + 1 + 1 + 1]? = some zeroT := by
  subst hW
  refine ⟨by simp, ((((Below.refl _ w).alloc (Nat.le_refl _) _).alloc (by simp) _).alloc (by simp; omega) _).alloc (by simp; omega) _, block_alloc _ (block_alloc _ (block_alloc _ (World.alloc_heap_new w _))), ?_, ?_, ?_⟩
  · have := block_alloc zeroT (block_alloc (bx v) (World.alloc_heap_new (w.alloc o0) (bx k)))
    simpa only [World.size_alloc] using this
  · have := block_alloc zeroT (World.alloc_heap_new ((w.alloc o0).alloc (bx k)) (bx v))
    simpa only [World.size_alloc] using this
  · have := World.alloc_heap_new (((w.alloc o0).alloc (bx k)).alloc (bx v)) zeroT
    simpa only [World.size_alloc] using this

theorem res16 {tm : Array Value} {W : World} {B : Nat} {a a' : Option Addr} {n n' c c' : Nat} {ec : Int} (h : tm[6]?.getD undef = .pointer (some ⟨B, 0, none⟩)) (h' : tm[7]?.getD undef = .int .i64 ec) (hx : W.heap[B]? = some (.cells #[.slice a n c, .slice a' n' c'] 57)) : (results Tryz.f117 tm).run Tryz.prog W = .ok (.tuple #[.agg #[.slice a n c, .slice a' n' c'], .int .i64 ec]) W := by
  have c0 : W.cell? ⟨B, 0, none⟩ = some (.slice a n c) := cell_block hx rfl
  have c1 : W.cell? ⟨B, 1, none⟩ = some (.slice a' n' c') := cell_block hx rfl
  simp [results, Tryz.results117, go_sem, h, h', c0, c1]

/-- A table is stored into a box. -/
theorem put2_same {W : World} {B : Nat} {p q p' q' : Value} (h : W.heap[B]? = some (.cells #[p, q] 57)) : ((W.setCell ⟨B, 0, none⟩ p').setCell ⟨B, 1, none⟩ q').heap[B]? = some (.cells #[p', q'] 57) := set_block _ (set_block _ h)
theorem put2_other (W : World) {B C : Nat} (p q : Value) (h : C ≠ B) : ((W.setCell ⟨B, 0, none⟩ p).setCell ⟨B, 1, none⟩ q).heap[C]? = W.heap[C]? := (set1_other _ _ h).trans (set1_other _ _ h)
theorem put2_below {m : Nat} {w W : World} {B : Nat} (p q : Value) (h : Below m w W) (hB : m ≤ B) : Below m w ((W.setCell ⟨B, 0, none⟩ p).setCell ⟨B, 1, none⟩ q) := (h.setCell (p := ⟨B, 0, none⟩) hB _).setCell (p := ⟨B, 1, none⟩) hB _
theorem put2_keeps (W : World) (B : Nat) (p q : Value) : KeepsOthers W ((W.setCell ⟨B, 0, none⟩ p).setCell ⟨B, 1, none⟩ q) := (KeepsOthers.setCell _ _ _).trans (KeepsOthers.setCell _ _ _)

set_option maxRecDepth 100000 in
set_option maxHeartbeats 2000000 in
theorem set_e1 (ks vs : Value) (xs ys : List Vl) (k v : Vl) (w : World) (hT : Tab w.heap.size w ks vs xs ys) (h : mayT xs ys = false) :
    Calls Tryz.prog 117 #[.agg #[ks, vs], k.v, v.v] w fun e w' => e = .returned (.tuple #[.agg #[.slice none 0 0, .slice none 0 0], .int .i64 2]) ∧ Below w.heap.size w w' := by
  obtain ⟨a, c1, rfl, _, _⟩ := hT.keys
  obtain ⟨a', c2, rfl, _, _⟩ := hT.vals
  obtain ⟨W1, hW1⟩ : ∃ W1, (((w.alloc (.cells #[.slice a xs.length c1, .slice a' ys.length c2] 57)).alloc (bx k)).alloc (bx v)).alloc zeroT = W1 := ⟨_, rfl⟩
  obtain ⟨hs1, hb0, ht, hk, hv, hr⟩ := set_mem w _ k v hW1
  have hM := tmay_f h (.slice a xs.length c1) (.slice a' ys.length c2) _ ((hT.below hb0).mono hb0.size)
  rw [← hW1] at hM
  clear h 
  replace hW1 : Hid _ := hW1
  go_enter Tryz.func117, Tryz.ntmps117
  go_wp2_with (go_at_call 43; refine hM.mono ?_; rintro e w1 ⟨rfl, hb1⟩; refine Hid.out ?_)
  rw [hW1.out] at hb1
  clear hM hW1
  replace hb0 := hb0.trans (hb1.mono hb0.size)
  replace ht := block_below hb1 ht
  replace hk := block_below hb1 hk
  replace hv := block_below hb1 hv
  replace hr := block_below hb1 hr
  clear hb1
  obtain ⟨k0, k1, k2, _, _, _⟩ := in3 hk
  obtain ⟨v0, v1, v2, _, _, _⟩ := in3 hv
  have r0 : w1.cell? ⟨w.heap.size + 1 + 1 + 1, 0, none⟩ = some (.slice none 0 0) := cell_block hr rfl
  have r1 : w1.cell? ⟨w.heap.size + 1 + 1 + 1, 1, none⟩ = some (.slice none 0 0) := cell_block hr rfl
  have f0 : w1.frozen? ⟨w.heap.size + 1 + 1 + 1, 0, none⟩ = false := frozen_block hr
  have f1 : w1.frozen? ⟨w.heap.size + 1 + 1 + 1, 1, none⟩ = false := frozen_block hr
  refine Lib.hid ?_
  go_wp2
  exact bodyPost_ret (res16 rfl rfl (put2_same hr)) rfl ⟨rfl, put2_below _ _ hb0 (by omega)⟩

set_option maxRecDepth 100000 in
set_option maxHeartbeats 2000000 in
theorem set_e2 (ks vs : Value) (xs ys : List Vl) (k v : Vl) (w : World) (hT : Tab w.heap.size w ks vs xs ys) (h : mayT xs ys = true) (h1 : mayB k.k k.n k.s = false) :
    Calls Tryz.prog 117 #[.agg #[ks, vs], k.v, v.v] w fun e w' => e = .returned (.tuple #[.agg #[.slice none 0 0, .slice none 0 0], .int .i64 2]) ∧ Below w.heap.size w w' := by
  obtain ⟨a, c1, rfl, _, _⟩ := hT.keys
  obtain ⟨a', c2, rfl, _, _⟩ := hT.vals
  obtain ⟨W1, hW1⟩ : ∃ W1, (((w.alloc (.cells #[.slice a xs.length c1, .slice a' ys.length c2] 57)).alloc (bx k)).alloc (bx v)).alloc zeroT = W1 := ⟨_, rfl⟩
  obtain ⟨hs1, hb0, ht, hk, hv, hr⟩ := set_mem w _ k v hW1
  have hM := tmay_t h (.slice a xs.length c1) (.slice a' ys.length c2) _ ((hT.below hb0).mono hb0.size)
  rw [← hW1] at hM
  have hV0 := fun u => may_any k.k k.n k.s u
  rw [h1] at hV0
  clear h h1
  replace hW1 : Hid _ := hW1
  go_enter Tryz.func117, Tryz.ntmps117
  go_wp2_with (go_at_call 43; refine hM.mono ?_; rintro e w1 ⟨rfl, hb1⟩; refine Hid.out ?_)
  rw [hW1.out] at hb1
  clear hM hW1
  replace hb0 := hb0.trans (hb1.mono hb0.size)
  replace ht := block_below hb1 ht
  replace hk := block_below hb1 hk
  replace hv := block_below hb1 hv
  replace hr := block_below hb1 hr
  clear hb1
  obtain ⟨k0, k1, k2, _, _, _⟩ := in3 hk
  obtain ⟨v0, v1, v2, _, _, _⟩ := in3 hv
  have r0 : w1.cell? ⟨w.heap.size + 1 + 1 + 1, 0, none⟩ = some (.slice none 0 0) := cell_block hr rfl
  have r1 : w1.cell? ⟨w.heap.size + 1 + 1 + 1, 1, none⟩ = some (.slice none 0 0) := cell_block hr rfl
  have f0 : w1.frozen? ⟨w.heap.size + 1 + 1 + 1, 0, none⟩ = false := frozen_block hr
  have f1 : w1.frozen? ⟨w.heap.size + 1 + 1 + 1, 1, none⟩ = false := frozen_block hr
  refine Lib.hid ?_
  go_wp2_with (go_at_call_of 60 k; refine (hV0 _).mono ?_; rintro e w2 ⟨rfl, hb1⟩; refine Hid.out ?_)
  clear k0 k1 k2 v0 v1 v2 r0 r1 f0 f1
  replace hb0 := hb0.trans (hb1.mono hb0.size)
  replace ht := block_below hb1 ht
  replace hk := block_below hb1 hk
  replace hv := block_below hb1 hv
  replace hr := block_below hb1 hr
  clear hb1
  obtain ⟨k0, k1, k2, _, _, _⟩ := in3 hk
  obtain ⟨v0, v1, v2, _, _, _⟩ := in3 hv
  have r0 : w2.cell? ⟨w.heap.size + 1 + 1 + 1, 0, none⟩ = some (.slice none 0 0) := cell_block hr rfl
  have r1 : w2.cell? ⟨w.heap.size + 1 + 1 + 1, 1, none⟩ = some (.slice none 0 0) := cell_block hr rfl
  have f0 : w2.frozen? ⟨w.heap.size + 1 + 1 + 1, 0, none⟩ = false := frozen_block hr
  have f1 : w2.frozen? ⟨w.heap.size + 1 + 1 + 1, 1, none⟩ = false := frozen_block hr
  refine Lib.hid ?_
  go_wp2
  exact bodyPost_ret (res16 rfl rfl (put2_same hr)) rfl ⟨rfl, put2_below _ _ hb0 (by omega)⟩

set_option maxRecDepth 100000 in
set_option maxHeartbeats 2000000 in
theorem set_e3 (ks vs : Value) (xs ys : List Vl) (k v : Vl) (w : World) (hT : Tab w.heap.size w ks vs xs ys) (h : mayT xs ys = true) (h1 : mayB k.k k.n k.s = true) (h2 : mayB v.k v.n v.s = false) :
    Calls Tryz.prog 117 #[.agg #[ks, vs], k.v, v.v] w fun e w' => e = .returned (.tuple #[.agg #[.slice none 0 0, .slice none 0 0], .int .i64 2]) ∧ Below w.heap.size w w' := by
  obtain ⟨a, c1, rfl, _, _⟩ := hT.keys
  obtain ⟨a', c2, rfl, _, _⟩ := hT.vals
  obtain ⟨W1, hW1⟩ : ∃ W1, (((w.alloc (.cells #[.slice a xs.length c1, .slice a' ys.length c2] 57)).alloc (bx k)).alloc (bx v)).alloc zeroT = W1 := ⟨_, rfl⟩
  obtain ⟨hs1, hb0, ht, hk, hv, hr⟩ := set_mem w _ k v hW1
  have hM := tmay_t h (.slice a xs.length c1) (.slice a' ys.length c2) _ ((hT.below hb0).mono hb0.size)
  rw [← hW1] at hM
  have hV0 := fun u => may_any k.k k.n k.s u
  rw [h1] at hV0
  have hV1 := fun u => may_any v.k v.n v.s u
  rw [h2] at hV1
  clear h h1 h2
  replace hW1 : Hid _ := hW1
  go_enter Tryz.func117, Tryz.ntmps117
  go_wp2_with (go_at_call 43; refine hM.mono ?_; rintro e w1 ⟨rfl, hb1⟩; refine Hid.out ?_)
  rw [hW1.out] at hb1
  clear hM hW1
  replace hb0 := hb0.trans (hb1.mono hb0.size)
  replace ht := block_below hb1 ht
  replace hk := block_below hb1 hk
  replace hv := block_below hb1 hv
  replace hr := block_below hb1 hr
  clear hb1
  obtain ⟨k0, k1, k2, _, _, _⟩ := in3 hk
  obtain ⟨v0, v1, v2, _, _, _⟩ := in3 hv
  have r0 : w1.cell? ⟨w.heap.size + 1 + 1 + 1, 0, none⟩ = some (.slice none 0 0) := cell_block hr rfl
  have r1 : w1.cell? ⟨w.heap.size + 1 + 1 + 1, 1, none⟩ = some (.slice none 0 0) := cell_block hr rfl
  have f0 : w1.frozen? ⟨w.heap.size + 1 + 1 + 1, 0, none⟩ = false := frozen_block hr
  have f1 : w1.frozen? ⟨w.heap.size + 1 + 1 + 1, 1, none⟩ = false := frozen_block hr
  refine Lib.hid ?_
  go_wp2_with (go_at_call_of 60 k; refine (hV0 _).mono ?_; rintro e w2 ⟨rfl, hb1⟩; refine Hid.out ?_)
  clear k0 k1 k2 v0 v1 v2 r0 r1 f0 f1
  replace hb0 := hb0.trans (hb1.mono hb0.size)
  replace ht := block_below hb1 ht
  replace hk := block_below hb1 hk
  replace hv := block_below hb1 hv
  replace hr := block_below hb1 hr
  clear hb1
  obtain ⟨k0, k1, k2, _, _, _⟩ := in3 hk
  obtain ⟨v0, v1, v2, _, _, _⟩ := in3 hv
  have r0 : w2.cell? ⟨w.heap.size + 1 + 1 + 1, 0, none⟩ = some (.slice none 0 0) := cell_block hr rfl
  have r1 : w2.cell? ⟨w.heap.size + 1 + 1 + 1, 1, none⟩ = some (.slice none 0 0) := cell_block hr rfl
  have f0 : w2.frozen? ⟨w.heap.size + 1 + 1 + 1, 0, none⟩ = false := frozen_block hr
  have f1 : w2.frozen? ⟨w.heap.size + 1 + 1 + 1, 1, none⟩ = false := frozen_block hr
  refine Lib.hid ?_
  go_wp2_with (go_at_call_of 60 v; refine (hV1 _).mono ?_; rintro e w3 ⟨rfl, hb1⟩; refine Hid.out ?_)
  clear k0 k1 k2 v0 v1 v2 r0 r1 f0 f1
  replace hb0 := hb0.trans (hb1.mono hb0.size)
  replace ht := block_below hb1 ht
  replace hk := block_below hb1 hk
  replace hv := block_below hb1 hv
  replace hr := block_below hb1 hr
  clear hb1
  obtain ⟨k0, k1, k2, _, _, _⟩ := in3 hk
  obtain ⟨v0, v1, v2, _, _, _⟩ := in3 hv
  have r0 : w3.cell? ⟨w.heap.size + 1 + 1 + 1, 0, none⟩ = some (.slice none 0 0) := cell_block hr rfl
  have r1 : w3.cell? ⟨w.heap.size + 1 + 1 + 1, 1, none⟩ = some (.slice none 0 0) := cell_block hr rfl
  have f0 : w3.frozen? ⟨w.heap.size + 1 + 1 + 1, 0, none⟩ = false := frozen_block hr
  have f1 : w3.frozen? ⟨w.heap.size + 1 + 1 + 1, 1, none⟩ = false := frozen_block hr
  refine Lib.hid ?_
  go_wp2
  exact bodyPost_ret (res16 rfl rfl (put2_same hr)) rfl ⟨rfl, put2_below _ _ hb0 (by omega)⟩

set_option maxRecDepth 100000 in
set_option maxHeartbeats 2000000 in
theorem set_e4 (ks vs : Value) (xs ys : List Vl) (k v : Vl) (w : World) (hT : Tab w.heap.size w ks vs xs ys) (h : mayT xs ys = true) (h1 : mayB k.k k.n k.s = true) (h2 : mayB v.k v.n v.s = true) (h3 : (k.k == 0) = true) :
    Calls Tryz.prog 117 #[.agg #[ks, vs], k.v, v.v] w fun e w' => e = .returned (.tuple #[.agg #[.slice none 0 0, .slice none 0 0], .int .i64 3]) ∧ Below w.heap.size w w' := by
  obtain ⟨a, c1, rfl, _, _⟩ := hT.keys
  obtain ⟨a', c2, rfl, _, _⟩ := hT.vals
  obtain ⟨W1, hW1⟩ : ∃ W1, (((w.alloc (.cells #[.slice a xs.length c1, .slice a' ys.length c2] 57)).alloc (bx k)).alloc (bx v)).alloc zeroT = W1 := ⟨_, rfl⟩
  obtain ⟨hs1, hb0, ht, hk, hv, hr⟩ := set_mem w _ k v hW1
  have hM := tmay_t h (.slice a xs.length c1) (.slice a' ys.length c2) _ ((hT.below hb0).mono hb0.size)
  rw [← hW1] at hM
  have hV0 := fun u => may_any k.k k.n k.s u
  rw [h1] at hV0
  have hV1 := fun u => may_any v.k v.n v.s u
  rw [h2] at hV1
  clear h h1 h2
  replace hW1 : Hid _ := hW1
  go_enter Tryz.func117, Tryz.ntmps117
  go_wp2_with (go_at_call 43; refine hM.mono ?_; rintro e w1 ⟨rfl, hb1⟩; refine Hid.out ?_)
  rw [hW1.out] at hb1
  clear hM hW1
  replace hb0 := hb0.trans (hb1.mono hb0.size)
  replace ht := block_below hb1 ht
  replace hk := block_below hb1 hk
  replace hv := block_below hb1 hv
  replace hr := block_below hb1 hr
  clear hb1
  obtain ⟨k0, k1, k2, _, _, _⟩ := in3 hk
  obtain ⟨v0, v1, v2, _, _, _⟩ := in3 hv
  have r0 : w1.cell? ⟨w.heap.size + 1 + 1 + 1, 0, none⟩ = some (.slice none 0 0) := cell_block hr rfl
  have r1 : w1.cell? ⟨w.heap.size + 1 + 1 + 1, 1, none⟩ = some (.slice none 0 0) := cell_block hr rfl
  have f0 : w1.frozen? ⟨w.heap.size + 1 + 1 + 1, 0, none⟩ = false := frozen_block hr
  have f1 : w1.frozen? ⟨w.heap.size + 1 + 1 + 1, 1, none⟩ = false := frozen_block hr
  refine Lib.hid ?_
  go_wp2_with (go_at_call_of 60 k; refine (hV0 _).mono ?_; rintro e w2 ⟨rfl, hb1⟩; refine Hid.out ?_)
  clear k0 k1 k2 v0 v1 v2 r0 r1 f0 f1
  replace hb0 := hb0.trans (hb1.mono hb0.size)
  replace ht := block_below hb1 ht
  replace hk := block_below hb1 hk
  replace hv := block_below hb1 hv
  replace hr := block_below hb1 hr
  clear hb1
  obtain ⟨k0, k1, k2, _, _, _⟩ := in3 hk
  obtain ⟨v0, v1, v2, _, _, _⟩ := in3 hv
  have r0 : w2.cell? ⟨w.heap.size + 1 + 1 + 1, 0, none⟩ = some (.slice none 0 0) := cell_block hr rfl
  have r1 : w2.cell? ⟨w.heap.size + 1 + 1 + 1, 1, none⟩ = some (.slice none 0 0) := cell_block hr rfl
  have f0 : w2.frozen? ⟨w.heap.size + 1 + 1 + 1, 0, none⟩ = false := frozen_block hr
  have f1 : w2.frozen? ⟨w.heap.size + 1 + 1 + 1, 1, none⟩ = false := frozen_block hr
  refine Lib.hid ?_
  go_wp2_with (go_at_call_of 60 v; refine (hV1 _).mono ?_; rintro e w3 ⟨rfl, hb1⟩; refine Hid.out ?_)
  clear k0 k1 k2 v0 v1 v2 r0 r1 f0 f1
  replace hb0 := hb0.trans (hb1.mono hb0.size)
  replace ht := block_below hb1 ht
  replace hk := block_below hb1 hk
  replace hv := block_below hb1 hv
  replace hr := block_below hb1 hr
  clear hb1
  obtain ⟨k0, k1, k2, _, _, _⟩ := in3 hk
  obtain ⟨v0, v1, v2, _, _, _⟩ := in3 hv
  have r0 : w3.cell? ⟨w.heap.size + 1 + 1 + 1, 0, none⟩ = some (.slice none 0 0) := cell_block hr rfl
  have r1 : w3.cell? ⟨w.heap.size + 1 + 1 + 1, 1, none⟩ = some (.slice none 0 0) := cell_block hr rfl
  have f0 : w3.frozen? ⟨w.heap.size + 1 + 1 + 1, 0, none⟩ = false := frozen_block hr
  have f1 : w3.frozen? ⟨w.heap.size + 1 + 1 + 1, 1, none⟩ = false := frozen_block hr
  refine Lib.hid ?_
  go_wp2
  exact bodyPost_ret (res16 rfl rfl (put2_same hr)) rfl ⟨rfl, put2_below _ _ hb0 (by omega)⟩

end Go.Proofs.YthdhgfpidhbdiaaGreatDoor
