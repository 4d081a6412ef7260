/- with: a pair put behind all others, in memory of its own. -/
import Derived.Deep.AppendLies
import Derived.Test.YthpgbienakcbeaaGreatDoorS14
namespace Go.Proofs.YthpgbienakcbeaaGreatDoor
open Go.RowKit Go.Shelf Go
set_option maxRecDepth 100000
set_option maxHeartbeats 8000000
set_option linter.all false
variable {base n b B n' c c' m : Nat} {W W' w u u' W1 : World} {v k x : Vl} {xs ys : List Vl} {ks vs q : Value} {row : Option Nat} {tm : Array Value} {a a' : Option Addr} {P : Nat → Prop} {o : Obj} {ec : Int} {p : Vl × Vl} {zs : List (Vl × Vl)}
section
variable [DecidableEq Vl]
theorem b0p : (Tryz.prog.info? 30).map (fun i => (i.zero, i.size, i.bytes)) = some (some (.agg #[.int .i64 0, .int .i64 0, .string ⟨#[]⟩]), 3, 32) := by kernel_rfl
abbrev trio (x : Vl) : List Value := [.int .i64 x.k, .int .i64 x.n, .string x.s]
def flat (xs : List Vl) : List Value := xs.flatMap trio
theorem a6a (xs : List Vl) (x : Vl) : flat (xs ++ [x]) = flat xs ++ trio x := by simp [flat]
theorem a1j (xs : List Vl) : (flat xs).length = xs.length * 3 := by
 induction xs with
 | nil => rfl
 | cons x xs ih => simp [flat] at ih ⊢; omega
structure Own2 (base : Nat) (W : World) (ks vs : Value) (xs ys : List Vl) : Prop where
 k : W.ownsRow base 30 3 ks xs.length (flat xs)
 v : W.ownsRow base 30 3 vs ys.length (flat ys)
 ne : ∀ b, ks.ownBlock = some b → vs.ownBlock ≠ some b
theorem a0z {v : Value} {xs : List Value} (h : W.ownsRow base 30 3 v n xs) (hb : v.ownBlock = some b) : base ≤ b ∧ b < W.heap.size ∧ ∃ cur, W.heap[b]? = some (.cells cur 30) := by
 rcases h.2 with ⟨rfl, _⟩ | ⟨g, cap, cur, rfl, hge, hg, _⟩
 ·simp [Value.ownBlock] at hb
 ·obtain rfl : g = b := by simpa [Value.ownBlock] using hb
  exact ⟨hge, (Array.getElem?_eq_some_iff.1 hg).1, cur, hg⟩
theorem a3a {v : Value} {xs : List Value} (h : W.ownsRow base 30 3 v n xs) (hw : ∀ b, v.ownBlock = some b → W'.heap[b]? = W.heap[b]?) : W'.ownsRow base 30 3 v n xs := by
 refine ⟨h.1, ?_⟩
 rcases h.2 with h0 | ⟨g, cap, cur, rfl, hge, hg, hr⟩
 ·exact .inl h0
 ·exact .inr ⟨g, cap, cur, rfl, hge, (hw g rfl).trans hg, hr⟩
theorem Own2.kept (h : Own2 base W ks vs xs ys) (hw : ∀ b, (ks.ownBlock = some b ∨ vs.ownBlock = some b) → W'.heap[b]? = W.heap[b]?) : Own2 base W' ks vs xs ys :=
 ⟨a3a h.k (fun b hb => hw b (.inl hb)), a3a h.v (fun b hb => hw b (.inr hb)), h.ne⟩
theorem Own2.below (h : Own2 base W ks vs xs ys) (hb : Below W.heap.size W W') : Own2 base W' ks vs xs ys :=
 h.kept (fun b hb' => hb.block b (hb'.elim (fun e => (a0z h.k e).2.1) (fun e => (a0z h.v e).2.1)))
structure Fr (W W' : World) (ks vs : Value) : Prop where
 os : W'.os = W.os
 tape : W'.tape = W.tape
 output : W'.output = W.output
 size : W.heap.size ≤ W'.heap.size
 block : ∀ b, b < W.heap.size → ks.ownBlock ≠ some b → vs.ownBlock ≠ some b → W'.heap[b]? = W.heap[b]?
theorem Fr.of_below (ks vs : Value) (h : Below W.heap.size W W') : Fr W W' ks vs := ⟨h.os, h.tape, h.output, h.size, fun b hb _ _ => h.block b hb⟩
theorem Fr.below (h : Fr W W' ks vs) (ho : Own2 base W ks vs xs ys) (hs : base ≤ W.heap.size) : Below base W W' :=
 ⟨h.os, h.tape, h.output, h.size, fun b hb => h.block b (by omega) (fun e => by have := (a0z ho.k e).1; omega) (fun e => by have := (a0z ho.v e).1; omega)⟩
theorem c3y (a : Option Addr) (n1 c1 : Nat) (a' : Option Addr) (n2 c2 : Nat) (k v : Vl) (w : World) (h : (v.k == 0) = true) :
  Calls Tryz.prog 125 #[.agg #[.slice a n1 c1, .slice a' n2 c2], k.v, v.v] w fun e w' => e = .returned (.agg #[.slice a n1 c1, .slice a' n2 c2]) ∧ Below w.heap.size w w' := by
 go_enter Tryz.func125, Tryz.ntmps125
 go_wp2
 exact bodyPost_ret (v := .agg #[.slice a n1 c1, .slice a' n2 c2]) (by simp [results, Tryz.results125, go_sem]) rfl ⟨rfl, ((((Below.refl _ _).alloc (Nat.le_refl _) _).alloc (by simp) _).alloc (by simp; omega) _).alloc (by simp; omega) _⟩
structure MW (w : World) (ks vs : Value) (k v : Vl) (u : World) : Prop where
 ht : u.heap[w.heap.size]? = some (.cells #[ks, vs] 57)
 hk : u.heap[w.heap.size + 1]? = some (bx k)
 hv : u.heap[w.heap.size + 1 + 1]? = some (bx v)
 hr : u.heap[w.heap.size + 1 + 1 + 1]? = some (.cells #[.slice none 0 0, .slice none 0 0] 57)
 fr : Fr w u ks vs
theorem MW.lt (h : MW w ks vs k v u) : w.heap.size + 3 < u.heap.size := (Array.getElem?_eq_some_iff.1 h.hr).1
theorem MW.drew (h : MW w ks vs k v u) : MW w ks vs k v u.drew := ⟨h.ht, h.hk, h.hv, h.hr, ⟨h.fr.os, h.fr.tape, h.fr.output, h.fr.size, h.fr.block⟩⟩
theorem MW.alloc (h : MW w ks vs k v u) (o : Obj) : MW w ks vs k v (u.alloc o) :=
 ⟨a0g _ h.ht, a0g _ h.hk, a0g _ h.hv, a0g _ h.hr, ⟨h.fr.os, h.fr.tape, h.fr.output, by simp; exact Nat.le_succ_of_le h.fr.size, fun b hb h1 h2 => (Below.heap_alloc _ _ _ (Nat.lt_of_lt_of_le hb h.fr.size)).trans (h.fr.block b hb h1 h2)⟩⟩
theorem MW.grown (h : MW w ks vs k v u) (hg : u.grownBy u' row) (hrow : ∀ b, row = some b → b < w.heap.size ∧ (ks.ownBlock = some b ∨ vs.ownBlock = some b)) : MW w ks vs k v u' := by
 have hl := h.lt
 have far : ∀ b, w.heap.size ≤ b → b < u.heap.size → u'.heap[b]? = u.heap[b]? := fun b hb hb' => hg.block b hb' (fun e => by have := (hrow b e.symm).1; omega)
 refine ⟨(far _ (by omega) (by omega)).trans h.ht, (far _ (by omega) (by omega)).trans h.hk, (far _ (by omega) (by omega)).trans h.hv, (far _ (by omega) (by omega)).trans h.hr, ?_⟩
 refine ⟨hg.os.trans h.fr.os, hg.tape.trans h.fr.tape, hg.output.trans h.fr.output, Nat.le_trans h.fr.size hg.size, fun b hb h1 h2 => (hg.block b (by omega) (fun e => ?_)).trans (h.fr.block b hb h1 h2)⟩
 exact (hrow b e.symm).2.elim h1 h2
structure c8s (w : World) (ks vs : Value) (k v : Vl) (u : World) : Prop where
 t0 : u.cell? ⟨w.heap.size, 0, none⟩ = some ks
 t1 : u.cell? ⟨w.heap.size, 1, none⟩ = some vs
 k0 : u.cell? ⟨w.heap.size + 1, 0, none⟩ = some (.int .i64 k.k)
 k1 : u.cell? ⟨w.heap.size + 1, 1, none⟩ = some (.int .i64 k.n)
 k2 : u.cell? ⟨w.heap.size + 1, 2, none⟩ = some (.string k.s)
 v0 : u.cell? ⟨w.heap.size + 1 + 1, 0, none⟩ = some (.int .i64 v.k)
 v1 : u.cell? ⟨w.heap.size + 1 + 1, 1, none⟩ = some (.int .i64 v.n)
 v2 : u.cell? ⟨w.heap.size + 1 + 1, 2, none⟩ = some (.string v.s)
 r0 : u.cell? ⟨w.heap.size + 1 + 1 + 1, 0, none⟩ = some (.slice none 0 0)
 r1 : u.cell? ⟨w.heap.size + 1 + 1 + 1, 1, none⟩ = some (.slice none 0 0)
 f0 : u.frozen? ⟨w.heap.size + 1 + 1 + 1, 0, none⟩ = false
 f1 : u.frozen? ⟨w.heap.size + 1 + 1 + 1, 1, none⟩ = false
theorem MW.cells (h : MW w ks vs k v u) : c8s w ks vs k v u :=
 ⟨a0a h.ht rfl, a0a h.ht rfl, (in3 h.hk).c0, (in3 h.hk).c1, (in3 h.hk).c2, (in3 h.hv).c0, (in3 h.hv).c1, (in3 h.hv).c2, a0a h.hr rfl, a0a h.hr rfl, a0e h.hr, a0e h.hr⟩
theorem news (h : W.heap[B]? = some (bx x)) : ∀ j u, (trio x)[j]? = some u → W.cell? ((⟨B, 0, none⟩ : Addr).add j) = some u := World.news_of_block (cs := #[.int .i64 x.k, .int .i64 x.n, .string x.s]) h
theorem c8t (h : tm[6]?.getD undef = .pointer (some ⟨B, 0, none⟩)) (hx : W.heap[B]? = some (.cells #[.slice a n c, .slice a' n' c'] 57)) : (results Tryz.f125 tm).run Tryz.prog W = .ok (.agg #[.slice a n c, .slice a' n' c']) W := by
 have c0 : W.cell? ⟨B, 0, none⟩ = some (.slice a n c) := a0a hx rfl
 have c1 : W.cell? ⟨B, 1, none⟩ = some (.slice a' n' c') := a0a hx rfl
 simp [results, Tryz.results125, go_sem, h, c0, c1]
theorem newk (W1 : World) (k v : Vl) : ((W1.alloc (bx v)).alloc (bx k)).drew.heap[W1.heap.size + 1]? = some (bx k) := by
 have := World.alloc_heap_new (W1.alloc (bx v)) (bx k)
 simp only [World.size_alloc] at this
 exact this
theorem newv (W1 : World) (k v : Vl) : ((W1.alloc (bx k)).alloc (bx v)).drew.heap[W1.heap.size + 1]? = some (bx v) := by
 have := World.alloc_heap_new (W1.alloc (bx k)) (bx v)
 simp only [World.size_alloc] at this
 exact this
theorem a3i (h : Own2 base W ks vs xs ys) : Own2 base W.drew ks vs xs ys := ⟨h.k, h.v, h.ne⟩
theorem a1s (h : Own2 base W ks vs xs ys) (o : Obj) : Own2 base (W.alloc o) ks vs xs ys := h.below ((Below.refl _ _).alloc (Nat.le_refl _) _)
theorem b9l (h : Own2 base W ks vs xs ys) (e : vs.ownBlock = some b) : b < W.heap.size := (a0z h.v e).2.1
theorem far2 (hg : u.grownBy u' row) (hrow : ∀ b, row = some b → b < w.heap.size ∧ P b) (hs : w.heap.size ≤ W1.heap.size) (h : u.heap[W1.heap.size + 1]? = some o) : u'.heap[W1.heap.size + 1]? = some o :=
 (hg.block _ (Array.getElem?_eq_some_iff.1 h).1 (fun e => by have := (hrow _ e.symm).1; omega)).trans h
theorem far1 (hg : u.grownBy u' row) (hrow : ∀ b, row = some b → b < w.heap.size ∧ P b) (hs : w.heap.size ≤ W1.heap.size) (h : u.heap[W1.heap.size]? = some o) : u'.heap[W1.heap.size]? = some o :=
 (hg.block _ (Array.getElem?_eq_some_iff.1 h).1 (fun e => by have := (hrow _ e.symm).1; omega)).trans h
theorem b1l {g cap g2 cap2 : Nat} {w2 u2 w3 : World} {H : Nat} (ho : Own2 base w ks vs xs ys) (hown1 : w2.ownsRow base 30 3 (.slice (some ⟨g, 0, none⟩) (xs.length + 1) cap) (xs.length + 1) (flat xs ++ trio k)) (hown2 : w3.ownsRow base 30 3 (.slice (some ⟨g2, 0, none⟩) (ys.length + 1) cap2) (ys.length + 1) (flat ys ++ trio v)) (hgrow2 : u2.grownBy w3 vs.ownBlock) (hu2 : Below w2.heap.size w2 u2) (hat : ks.ownBlock = some g ∨ g = H) (hH : w.heap.size ≤ H) (hlt : g < w2.heap.size) (hat2 : vs.ownBlock = some g2 ∨ g2 = u2.heap.size) (M3 : MW w ks vs k v w3) :
  Own2 base ((w3.setCell ⟨w.heap.size + 1 + 1 + 1, 0, none⟩ (.slice (some ⟨g, 0, none⟩) (xs.length + 1) cap)).setCell ⟨w.heap.size + 1 + 1 + 1, 1, none⟩ (.slice (some ⟨g2, 0, none⟩) (ys.length + 1) cap2)) (.slice (some ⟨g, 0, none⟩) (xs.length + 1) cap) (.slice (some ⟨g2, 0, none⟩) (ys.length + 1) cap2) (xs ++ [k]) (ys ++ [v]) ∧
  Fr w ((w3.setCell ⟨w.heap.size + 1 + 1 + 1, 0, none⟩ (.slice (some ⟨g, 0, none⟩) (xs.length + 1) cap)).setCell ⟨w.heap.size + 1 + 1 + 1, 1, none⟩ (.slice (some ⟨g2, 0, none⟩) (ys.length + 1) cap2)) ks vs := by
 have hvg : vs.ownBlock ≠ some g := by
  rcases hat with h | h
  ·exact ho.ne g h
  ·intro e
   have := (a0z ho.v e).2.1
   omega
 have hgg : g ≠ g2 := by
  rcases hat2 with h | h
  ·rintro rfl; exact hvg h
  ·have := hu2.size; omega
 have h1 : w3.ownsRow base 30 3 (.slice (some ⟨g, 0, none⟩) (xs.length + 1) cap) (xs.length + 1) (flat xs ++ trio k) := a3a hown1 (fun b e => by
  obtain rfl : g = b := by simpa [Value.ownBlock] using e
  exact (hgrow2.block g (Nat.lt_of_lt_of_le hlt hu2.size) (fun e' => hvg e'.symm)).trans (hu2.block g hlt))
 have ne3 : ∀ b, (∃ cur, w3.heap[b]? = some (.cells cur 30)) → b ≠ w.heap.size + 1 + 1 + 1 := by
  rintro b ⟨cur, hc⟩ rfl
  rw [M3.hr] at hc
  cases hc
 have n1 := ne3 g (a0z h1 rfl).2.2
 have n2 := ne3 g2 (a0z hown2 rfl).2.2
 refine ⟨⟨?_, ?_, ?_⟩, ?_⟩
 ·rw [a6a, List.length_append]
  exact a3a h1 (fun b e => by
   obtain rfl : g = b := by simpa [Value.ownBlock] using e
   exact (a0f _ _ n1).trans (a0f _ _ n1))
 ·rw [a6a, List.length_append]
  exact a3a hown2 (fun b e => by
   obtain rfl : g2 = b := by simpa [Value.ownBlock] using e
   exact (a0f _ _ n2).trans (a0f _ _ n2))
 ·intro b e e'
  simp [Value.ownBlock] at e e'
  omega
 ·exact ⟨M3.fr.os, M3.fr.tape, M3.fr.output, Nat.le_trans M3.fr.size (Nat.le_trans (KeepsOthers.setCell _ _ _).size (KeepsOthers.setCell _ _ _).size), fun b hb h1 h2 => ((a0f _ _ (by omega)).trans (a0f _ _ (by omega))).trans (M3.fr.block b hb h1 h2)⟩
theorem b9m (base : Nat) (ks vs : Value) (xs ys : List Vl) (k v : Vl) (w : World) (ho : Own2 base w ks vs xs ys) (hb : base ≤ w.heap.size) (hx : xs.length ≤ 200) (hy : ys.length ≤ 200) (h : (v.k == 0) = false) :
  Calls Tryz.prog 125 #[.agg #[ks, vs], k.v, v.v] w fun e w' => ∃ ks' vs', e = .returned (.agg #[ks', vs']) ∧ Own2 base w' ks' vs' (xs ++ [k]) (ys ++ [v]) ∧ Fr w w' ks vs := by
 obtain ⟨i0, hi0, hz0, hz1, hz2⟩ := info_parts b0p
 obtain ⟨a, n1, c1, rfl⟩ : ∃ a n c, ks = .slice a n c := by rcases ho.k.2 with ⟨rfl, _⟩ | ⟨g, cap, cur, rfl, _⟩ <;> exact ⟨_, _, _, rfl⟩
 obtain ⟨a', n2, c2, rfl⟩ : ∃ a n c, vs = .slice a n c := by rcases ho.v.2 with ⟨rfl, _⟩ | ⟨g, cap, cur, rfl, _⟩ <;> exact ⟨_, _, _, rfl⟩
 obtain ⟨W1, hW1⟩ := exq ((((w.alloc (.cells #[.slice a n1 c1, .slice a' n2 c2] 57)).alloc (bx k)).alloc (bx v)).alloc (.cells #[.slice none 0 0, .slice none 0 0] 57))
 have M0 : MW w (.slice a n1 c1) (.slice a' n2 c2) k v W1 := by
  subst hW1
  refine ⟨a0g _ (a0g _ (a0g _ (World.alloc_heap_new w _))), ?_, ?_, ?_, Fr.of_below _ _ (((((Below.refl _ _).alloc (Nat.le_refl _) _).alloc (by simp) _).alloc (by simp; omega) _).alloc (by simp; omega) _)⟩
  ·have := a0g (.cells #[.slice none 0 0, .slice none 0 0] 57) (a0g (bx v) (World.alloc_heap_new (w.alloc (.cells #[.slice a n1 c1, .slice a' n2 c2] 57)) (bx k)))
   simpa only [World.size_alloc] using this
  ·have := a0g (.cells #[.slice none 0 0, .slice none 0 0] 57) (World.alloc_heap_new ((w.alloc (.cells #[.slice a n1 c1, .slice a' n2 c2] 57)).alloc (bx k)) (bx v))
   simpa only [World.size_alloc] using this
  ·have := World.alloc_heap_new (((w.alloc (.cells #[.slice a n1 c1, .slice a' n2 c2] 57)).alloc (bx k)).alloc (bx v)) (.cells #[.slice none 0 0, .slice none 0 0] 57)
   simpa only [World.size_alloc] using this
 have hbw : Below w.heap.size w W1 := by subst hW1; exact ((((Below.refl _ _).alloc (Nat.le_refl _) _).alloc (by simp) _).alloc (by simp; omega) _).alloc (by simp; omega) _
 have ho1 := ho.below hbw
 have hrk : ∀ b, (Value.slice a n1 c1).ownBlock = some b → b < w.heap.size ∧ ((Value.slice a n1 c1).ownBlock = some b ∨ (Value.slice a' n2 c2).ownBlock = some b) := fun b e => ⟨(a0z ho.k e).2.1, .inl e⟩
 have hrv : ∀ b, (Value.slice a' n2 c2).ownBlock = some b → b < w.heap.size ∧ ((Value.slice a n1 c1).ownBlock = some b ∨ (Value.slice a' n2 c2).ownBlock = some b) := fun b e => ⟨(a0z ho.v e).2.1, .inr e⟩
 have hsz : base ≤ W1.heap.size := Nat.le_trans hb hbw.size
 have hszw := hbw.size
 have hn1 : xs.length + 1 ≤ maxLen := by unfold maxLen; omega
 have hb1 : (xs.length + 1) * 32 ≤ 140737488355328 := by omega
 have hn2 : ys.length + 1 ≤ maxLen := by unfold maxLen; omega
 have hb2 : (ys.length + 1) * 32 ≤ 140737488355328 := by omega
 replace hW1 : Hid _ := hW1
 replace hrk : Hid _ := hrk
 replace hrv : Hid _ := hrv
 replace ho : Hid _ := ho
 obtain ⟨t0, t1, k0, k1, k2, v0, v1, v2, r0, r1, f0, f1⟩ := M0.cells
 go_enter Tryz.func125, Tryz.ntmps125
 go_wp2
 have e1 := hW1.out
 dsimp only [bx] at e1
 rw [e1]
 clear e1 hbw
 have nn0 : ¬ w.heap.size = w.heap.size + 1 + 1 + 1 := by omega
 have nn1 : ¬ w.heap.size + 1 = w.heap.size + 1 + 1 + 1 := by omega
 have nn2 : ¬ w.heap.size + 1 + 1 + 1 = w.heap.size := by omega
 have nn4 : ¬ w.heap.size = w.heap.size + 1 + 1 := by omega
 have nn5 : ¬ w.heap.size + 1 + 1 = w.heap.size := by omega
 have nn3 : ¬ w.heap.size + 1 + 1 + 1 = w.heap.size + 1 := by omega
 go_region_held3 (fun u => u.cell? ⟨w.heap.size, 0, none⟩ = some (.slice a n1 c1) ∧ u.cell? ⟨w.heap.size, 1, none⟩ = some (.slice a' n2 c2) ∧ u.cell? ⟨w.heap.size + 1, 0, none⟩ = some (.int .i64 k.k) ∧ u.cell? ⟨w.heap.size + 1, 1, none⟩ = some (.int .i64 k.n) ∧ u.cell? ⟨w.heap.size + 1, 2, none⟩ = some (.string k.s) ∧ u.cell? ⟨w.heap.size + 1 + 1, 0, none⟩ = some (.int .i64 v.k) ∧ u.cell? ⟨w.heap.size + 1 + 1, 1, none⟩ = some (.int .i64 v.n) ∧ u.cell? ⟨w.heap.size + 1 + 1, 2, none⟩ = some (.string v.s)) (go_keep)
  (first
   | (refine step_append_lies _ (by rfl) _ _ _ (by rfl) base 30 i0 _ 3 32 Tryz.underlying48 hi0 hz0 hz1 hz2 rfl (by omega) (.slice a n1 c1) xs.length (flat xs) (by rfl) (a3i (a1s ho1 (bx k))).k ⟨W1.heap.size, 0, none⟩ 1 1 (trio k) (by rfl) (by rfl) (news (W := (W1.alloc (bx k)).drew) (World.alloc_heap_new W1 (bx k))) (by simp [Value.oneCell']) (by omega) hn1 hb1 (by simp; omega) _ rfl ?_; intro g cap w2 hown1 hgrow hat hlt; have M2 := MW.grown (M0.alloc (bx k)).drew hgrow hrk.out; have hV2 := a3a (a3i (a1s ho1 (bx k))).v (fun b e => hgrow.block b (b9l (a3i (a1s ho1 (bx k))) e) (fun e' => ho1.ne b e'.symm e)); obtain ⟨t0', t1', k0', k1', k2', v0', v1', v2', r0', r1', f0', f1'⟩ := M2.cells)
   | (refine step_append_lies _ (by rfl) _ _ _ (by rfl) base 30 i0 _ 3 32 Tryz.underlying48 hi0 hz0 hz1 hz2 rfl (by omega) (.slice a n1 c1) xs.length (flat xs) (by rfl) (a3i (a1s (a1s ho1 (bx k)) (bx v))).k ⟨W1.heap.size, 0, none⟩ 1 1 (trio k) (by rfl) (by rfl) (news (W := ((W1.alloc (bx k)).alloc (bx v)).drew) (a0g (bx v) (World.alloc_heap_new W1 (bx k)))) (by simp [Value.oneCell']) (by omega) hn1 hb1 (by simp; omega) _ rfl ?_; intro g cap w2 hown1 hgrow hat hlt; have M2 := MW.grown ((M0.alloc (bx k)).alloc (bx v)).drew hgrow hrk.out; have hV2 := a3a (a3i (a1s (a1s ho1 (bx k)) (bx v))).v (fun b e => hgrow.block b (b9l (a3i (a1s (a1s ho1 (bx k)) (bx v))) e) (fun e' => ho1.ne b e'.symm e)); obtain ⟨t0', t1', k0', k1', k2', v0', v1', v2', r0', r1', f0', f1'⟩ := M2.cells)
   | (refine step_append_lies _ (by rfl) _ _ _ (by rfl) base 30 i0 _ 3 32 Tryz.underlying48 hi0 hz0 hz1 hz2 rfl (by omega) (.slice a n1 c1) xs.length (flat xs) (by rfl) (a3i (a1s (a1s ho1 (bx v)) (bx k))).k ⟨W1.heap.size + 1, 0, none⟩ 1 1 (trio k) (by rfl) (by rfl) (news (newk W1 k v)) (by simp [Value.oneCell']) (by omega) hn1 hb1 (by simp; omega) _ rfl ?_; intro g cap w2 hown1 hgrow hat hlt; have M2 := MW.grown ((M0.alloc (bx v)).alloc (bx k)).drew hgrow hrk.out; have hV2 := a3a (a3i (a1s (a1s ho1 (bx v)) (bx k))).v (fun b e => hgrow.block b (b9l (a3i (a1s (a1s ho1 (bx v)) (bx k))) e) (fun e' => ho1.ne b e'.symm e)); obtain ⟨t0', t1', k0', k1', k2', v0', v1', v2', r0', r1', f0', f1'⟩ := M2.cells)
   | (refine step_append_lies _ (by rfl) _ _ _ (by rfl) base 30 i0 _ 3 32 Tryz.underlying48 hi0 hz0 hz1 hz2 rfl (by omega) (.slice a' n2 c2) ys.length (flat ys) (by rfl) (World.ownsRow.alloc hV2 (bx v)) ⟨w2.heap.size, 0, none⟩ 1 1 (trio v) (by rfl) (by rfl) (news (World.alloc_heap_new w2 (bx v))) (by simp [Value.oneCell']) (by omega) hn2 hb2 (by have := M2.lt; simp; omega) _ rfl ?_; intro g2 cap2 w3 hown2 hgrow2 hat2 hlt2; have M3 := MW.grown (M2.alloc (bx v)) hgrow2 hrv.out; obtain ⟨t0', t1', k0', k1', k2', v0', v1', v2', r0', r1', f0', f1'⟩ := M3.cells)
   | (refine step_append_lies _ (by rfl) _ _ _ (by rfl) base 30 i0 _ 3 32 Tryz.underlying48 hi0 hz0 hz1 hz2 rfl (by omega) (.slice a' n2 c2) ys.length (flat ys) (by rfl) hV2 ⟨W1.heap.size + 1, 0, none⟩ 1 1 (trio v) (by rfl) (by rfl) (news (far2 hgrow hrk.out hszw (newv W1 k v))) (by simp [Value.oneCell']) (by omega) hn2 hb2 (by have := M2.lt; omega) _ rfl ?_; intro g2 cap2 w3 hown2 hgrow2 hat2 hlt2; have M3 := MW.grown M2 hgrow2 hrv.out; obtain ⟨t0', t1', k0', k1', k2', v0', v1', v2', r0', r1', f0', f1'⟩ := M3.cells)
   | (refine step_append_lies _ (by rfl) _ _ _ (by rfl) base 30 i0 _ 3 32 Tryz.underlying48 hi0 hz0 hz1 hz2 rfl (by omega) (.slice a' n2 c2) ys.length (flat ys) (by rfl) hV2 ⟨W1.heap.size, 0, none⟩ 1 1 (trio v) (by rfl) (by rfl) (news (far1 hgrow hrk.out hszw (u := ((W1.alloc (bx v)).alloc (bx k)).drew) (a0g (bx k) (World.alloc_heap_new W1 (bx v))))) (by simp [Value.oneCell']) (by omega) hn2 hb2 (by have := M2.lt; omega) _ rfl ?_; intro g2 cap2 w3 hown2 hgrow2 hat2 hlt2; have M3 := MW.grown M2 hgrow2 hrv.out; obtain ⟨t0', t1', k0', k1', k2', v0', v1', v2', r0', r1', f0', f1'⟩ := M3.cells))
 ·go_wp2
  exact bodyPost_ret (c8t rfl (a0k _ (a0k _ M3.hr))) rfl ⟨_, _, rfl, b1l ho.out hown1 hown2 hgrow2 ((Below.refl _ _).alloc (Nat.le_refl _) _) hat (by simp; omega) hlt hat2 M3⟩
 ·go_wp2
  exact bodyPost_ret (c8t rfl (a0k _ (a0k _ M3.hr))) rfl ⟨_, _, rfl, b1l ho.out hown1 hown2 hgrow2 (Below.refl _ _) hat (by simp; omega) hlt hat2 M3⟩
 ·go_wp2
  exact bodyPost_ret (c8t rfl (a0k _ (a0k _ M3.hr))) rfl ⟨_, _, rfl, b1l ho.out hown1 hown2 hgrow2 (Below.refl _ _) hat (by simp; omega) hlt hat2 M3⟩
def swap (k v : Vl) (p : Vl × Vl) : Vl × Vl := if p.1 = k then (p.1, v) else p
def full (p : Vl × Vl) : Bool := !(p.2.k == 0)
def part (k v : Vl) (zs : List (Vl × Vl)) : List (Vl × Vl) := (zs.map (swap k v)).filter full
def met (k : Vl) (zs : List (Vl × Vl)) : Bool := zs.any (fun p => decide (p.1 = k))
def setZ (k v : Vl) (zs : List (Vl × Vl)) : List (Vl × Vl) := part k v zs ++ (if met k zs = true then [] else [(k, v)].filter full)
def setT (xs ys : List Vl) (k v : Vl) : List (Vl × Vl) × Int :=
 if ¬ (mayT xs ys = true ∧ mayB k.k k.n k.s = true ∧ mayB v.k v.n v.s = true) then ([], 2)
 else if k.k = 0 then ([], 3)
 else if 100 < (setZ k v (xs.zip ys)).length then ([], 1) else (setZ k v (xs.zip ys), 0)
theorem b2p (k v : Vl) (zs : List (Vl × Vl)) (p : Vl × Vl) : part k v (zs ++ [p]) = part k v zs ++ [swap k v p].filter full := by simp [part]
theorem b5h (k : Vl) (zs : List (Vl × Vl)) (p : Vl × Vl) : met k (zs ++ [p]) = (met k zs || decide (p.1 = k)) := by simp [met]
theorem a9l (k v : Vl) (zs : List (Vl × Vl)) : (part k v zs).length ≤ zs.length := by
 have := List.length_filter_le full (zs.map (swap k v))
 simpa [part] using this
theorem c3z {j : Nat} (h : xs[j]? = some x) (i : Nat) (hi : i < 3) : (flat xs)[j * 3 + i]? = (trio x)[i]? := by
 induction xs generalizing j with
 | nil => simp at h
 | cons y xs ih =>
  cases j with
  | zero =>
   simp at h
   subst h
   simp only [flat, List.flatMap_cons]
   rw [List.getElem?_append_left (by simp; omega)]
   congr 1
   omega
  | succ j =>
   simp at h
   simp only [flat, List.flatMap_cons]
   rw [List.getElem?_append_right (by simp; omega)]
   have := ih h
   rw [← this]
   simp only [flat]
   congr 1
   simp
   omega
theorem b6u {v : Value} (h : W.ownsRow base 30 3 v xs.length (flat xs)) : Row W.heap.size W v xs := by
 rcases h.2 with ⟨rfl, h0⟩ | ⟨g, cap, cur, rfl, _, hg, hn, hm, _, ht⟩
 ·have : xs = [] := List.length_eq_zero_iff.1 h0
  subst this
  exact ⟨none, 0, rfl, by simp, fun h => absurd rfl h⟩
 ·refine ⟨some ⟨g, 0, none⟩, cap, rfl, by omega, fun _ => ⟨g, 0, rfl, (Array.getElem?_eq_some_iff.1 hg).1, fun j x hj => ?_⟩⟩
  have hjl : j < xs.length := (List.getElem?_eq_some_iff.1 hj).1
  have cell : ∀ i, i < 3 → W.cell? ⟨g, 0 + j * 3 + i, none⟩ = (trio x)[i]? := fun i hi => by
   rw [← c3z hj i hi, ← ht]
   rw [List.getElem?_take_of_lt (by omega)]
   simp [World.cell?, hg]
  exact ⟨cell 0 (by omega), cell 1 (by omega), cell 2 (by omega)⟩
abbrev a3k : Obj := .cells #[.slice none 0 0, .slice none 0 0] 57
theorem a5b (w : World) (o0 : Obj) (k v : Vl) (hW : (((w.alloc o0).alloc (bx k)).alloc (bx v)).alloc a3k = W1) :
  W1.heap.size = w.heap.size + 4 ∧ Below w.heap.size w W1 ∧ W1.heap[w.heap.size]? = some o0 ∧ W1.heap[w.heap.size + 1]? = some (bx k) ∧ W1.heap[w.heap.size + 1 + 1]? = some (bx v) ∧ W1.heap[w.heap.size + 1 + 1 + 1]? = some a3k := by
 subst hW
 refine ⟨by simp, ((((Below.refl _ w).alloc (Nat.le_refl _) _).alloc (by simp) _).alloc (by simp; omega) _).alloc (by simp; omega) _, a0g _ (a0g _ (a0g _ (World.alloc_heap_new w _))), ?_, ?_, ?_⟩
 ·have := a0g a3k (a0g (bx v) (World.alloc_heap_new (w.alloc o0) (bx k)))
  simpa only [World.size_alloc] using this
 ·have := a0g a3k (World.alloc_heap_new ((w.alloc o0).alloc (bx k)) (bx v))
  simpa only [World.size_alloc] using this
 ·have := World.alloc_heap_new (((w.alloc o0).alloc (bx k)).alloc (bx v)) a3k
  simpa only [World.size_alloc] using this
theorem b2q (h : tm[6]?.getD undef = .pointer (some ⟨B, 0, none⟩)) (h' : tm[7]?.getD undef = .int .i64 ec) (hx : W.heap[B]? = some (.cells #[.slice a n c, .slice a' n' c'] 57)) : (results Tryz.f117 tm).run Tryz.prog W = .ok (.tuple #[.agg #[.slice a n c, .slice a' n' c'], .int .i64 ec]) W := by
 have c0 : W.cell? ⟨B, 0, none⟩ = some (.slice a n c) := a0a hx rfl
 have c1 : W.cell? ⟨B, 1, none⟩ = some (.slice a' n' c') := a0a hx rfl
 simp [results, Tryz.results117, go_sem, h, h', c0, c1]
theorem a1t {p p' q' : Value} (h : W.heap[B]? = some (.cells #[p, q] 57)) : ((W.setCell ⟨B, 0, none⟩ p').setCell ⟨B, 1, none⟩ q').heap[B]? = some (.cells #[p', q'] 57) := a0k _ (a0k _ h)
theorem a2h (W : World) {C : Nat} (p q : Value) (h : C ≠ B) : ((W.setCell ⟨B, 0, none⟩ p).setCell ⟨B, 1, none⟩ q).heap[C]? = W.heap[C]? := (a0f _ _ h).trans (a0f _ _ h)
theorem a1g (p q : Value) (h : Below m w W) (hB : m ≤ B) : Below m w ((W.setCell ⟨B, 0, none⟩ p).setCell ⟨B, 1, none⟩ q) := (h.setCell (p := ⟨B, 0, none⟩) hB _).setCell (p := ⟨B, 1, none⟩) hB _
theorem a3m (W : World) (B : Nat) (p q : Value) : KeepsOthers W ((W.setCell ⟨B, 0, none⟩ p).setCell ⟨B, 1, none⟩ q) := (KeepsOthers.setCell _ _ _).trans (KeepsOthers.setCell _ _ _)
theorem d1m (ks vs : Value) (xs ys : List Vl) (k v : Vl) (w : World) (hT : Tab w.heap.size w ks vs xs ys) (h : mayT xs ys = false) :
  Calls Tryz.prog 117 #[.agg #[ks, vs], k.v, v.v] w fun e w' => e = .returned (.tuple #[.agg #[.slice none 0 0, .slice none 0 0], .int .i64 2]) ∧ Below w.heap.size w w' := by
 obtain ⟨a, c1, rfl, _, _⟩ := hT.keys
 obtain ⟨a', c2, rfl, _, _⟩ := hT.vals
 obtain ⟨W1, hW1⟩ := exq ((((w.alloc (.cells #[.slice a xs.length c1, .slice a' ys.length c2] 57)).alloc (bx k)).alloc (bx v)).alloc a3k)
 obtain ⟨hs1, hb0, ht, hk, hv, hr⟩ := a5b w _ k v hW1
 have hM := b5f h (.slice a xs.length c1) (.slice a' ys.length c2) _ ((hT.below hb0).mono hb0.size)
 rw [← hW1] at hM
 clear h 
 replace hW1 : Hid _ := hW1
 go_enter Tryz.func117, Tryz.ntmps117
 go_wp2_with (go_at_call 43; refine hM.mono ?_; rintro e w1 ⟨rfl, hb1⟩; refine Hid.out ?_)
 rw [hW1.out] at hb1
 clear hM hW1
 replace hb0 := hb0.trans (hb1.mono hb0.size)
 replace ht := a0d hb1 ht
 replace hk := a0d hb1 hk
 replace hv := a0d hb1 hv
 replace hr := a0d hb1 hr
 clear hb1
 obtain ⟨k0, k1, k2, _, _, _⟩ := in3 hk
 obtain ⟨v0, v1, v2, _, _, _⟩ := in3 hv
 have r0 : w1.cell? ⟨w.heap.size + 1 + 1 + 1, 0, none⟩ = some (.slice none 0 0) := a0a hr rfl
 have r1 : w1.cell? ⟨w.heap.size + 1 + 1 + 1, 1, none⟩ = some (.slice none 0 0) := a0a hr rfl
 have f0 : w1.frozen? ⟨w.heap.size + 1 + 1 + 1, 0, none⟩ = false := a0e hr
 have f1 : w1.frozen? ⟨w.heap.size + 1 + 1 + 1, 1, none⟩ = false := a0e hr
 refine Lib.hid ?_
 go_wp2
 exact bodyPost_ret (b2q rfl rfl (a1t hr)) rfl ⟨rfl, a1g _ _ hb0 (by omega)⟩
theorem d1n (ks vs : Value) (xs ys : List Vl) (k v : Vl) (w : World) (hT : Tab w.heap.size w ks vs xs ys) (h : mayT xs ys = true) (h1 : mayB k.k k.n k.s = false) :
  Calls Tryz.prog 117 #[.agg #[ks, vs], k.v, v.v] w fun e w' => e = .returned (.tuple #[.agg #[.slice none 0 0, .slice none 0 0], .int .i64 2]) ∧ Below w.heap.size w w' := by
 obtain ⟨a, c1, rfl, _, _⟩ := hT.keys
 obtain ⟨a', c2, rfl, _, _⟩ := hT.vals
 obtain ⟨W1, hW1⟩ := exq ((((w.alloc (.cells #[.slice a xs.length c1, .slice a' ys.length c2] 57)).alloc (bx k)).alloc (bx v)).alloc a3k)
 obtain ⟨hs1, hb0, ht, hk, hv, hr⟩ := a5b w _ k v hW1
 have hM := a8r h (.slice a xs.length c1) (.slice a' ys.length c2) _ ((hT.below hb0).mono hb0.size)
 rw [← hW1] at hM
 have hV0 := fun u => a4o k.k k.n k.s u
 rw [h1] at hV0
 clear h h1
 replace hW1 : Hid _ := hW1
 go_enter Tryz.func117, Tryz.ntmps117
 go_wp2_with (go_at_call 43; refine hM.mono ?_; rintro e w1 ⟨rfl, hb1⟩; refine Hid.out ?_)
 rw [hW1.out] at hb1
 clear hM hW1
 replace hb0 := hb0.trans (hb1.mono hb0.size)
 replace ht := a0d hb1 ht
 replace hk := a0d hb1 hk
 replace hv := a0d hb1 hv
 replace hr := a0d hb1 hr
 clear hb1
 obtain ⟨k0, k1, k2, _, _, _⟩ := in3 hk
 obtain ⟨v0, v1, v2, _, _, _⟩ := in3 hv
 have r0 : w1.cell? ⟨w.heap.size + 1 + 1 + 1, 0, none⟩ = some (.slice none 0 0) := a0a hr rfl
 have r1 : w1.cell? ⟨w.heap.size + 1 + 1 + 1, 1, none⟩ = some (.slice none 0 0) := a0a hr rfl
 have f0 : w1.frozen? ⟨w.heap.size + 1 + 1 + 1, 0, none⟩ = false := a0e hr
 have f1 : w1.frozen? ⟨w.heap.size + 1 + 1 + 1, 1, none⟩ = false := a0e hr
 refine Lib.hid ?_
 go_wp2_with (go_at_call_of 60 k; refine (hV0 _).mono ?_; rintro e w2 ⟨rfl, hb1⟩; refine Hid.out ?_)
 clear k0 k1 k2 v0 v1 v2 r0 r1 f0 f1
 replace hb0 := hb0.trans (hb1.mono hb0.size)
 replace ht := a0d hb1 ht
 replace hk := a0d hb1 hk
 replace hv := a0d hb1 hv
 replace hr := a0d hb1 hr
 clear hb1
 obtain ⟨k0, k1, k2, _, _, _⟩ := in3 hk
 obtain ⟨v0, v1, v2, _, _, _⟩ := in3 hv
 have r0 : w2.cell? ⟨w.heap.size + 1 + 1 + 1, 0, none⟩ = some (.slice none 0 0) := a0a hr rfl
 have r1 : w2.cell? ⟨w.heap.size + 1 + 1 + 1, 1, none⟩ = some (.slice none 0 0) := a0a hr rfl
 have f0 : w2.frozen? ⟨w.heap.size + 1 + 1 + 1, 0, none⟩ = false := a0e hr
 have f1 : w2.frozen? ⟨w.heap.size + 1 + 1 + 1, 1, none⟩ = false := a0e hr
 refine Lib.hid ?_
 go_wp2
 exact bodyPost_ret (b2q rfl rfl (a1t hr)) rfl ⟨rfl, a1g _ _ hb0 (by omega)⟩
theorem d1o (ks vs : Value) (xs ys : List Vl) (k v : Vl) (w : World) (hT : Tab w.heap.size w ks vs xs ys) (h : mayT xs ys = true) (h1 : mayB k.k k.n k.s = true) (h2 : mayB v.k v.n v.s = false) :
  Calls Tryz.prog 117 #[.agg #[ks, vs], k.v, v.v] w fun e w' => e = .returned (.tuple #[.agg #[.slice none 0 0, .slice none 0 0], .int .i64 2]) ∧ Below w.heap.size w w' := by
 obtain ⟨a, c1, rfl, _, _⟩ := hT.keys
 obtain ⟨a', c2, rfl, _, _⟩ := hT.vals
 obtain ⟨W1, hW1⟩ := exq ((((w.alloc (.cells #[.slice a xs.length c1, .slice a' ys.length c2] 57)).alloc (bx k)).alloc (bx v)).alloc a3k)
 obtain ⟨hs1, hb0, ht, hk, hv, hr⟩ := a5b w _ k v hW1
 have hM := a8r h (.slice a xs.length c1) (.slice a' ys.length c2) _ ((hT.below hb0).mono hb0.size)
 rw [← hW1] at hM
 have hV0 := fun u => a4o k.k k.n k.s u
 rw [h1] at hV0
 have hV1 := fun u => a4o v.k v.n v.s u
 rw [h2] at hV1
 clear h h1 h2
 replace hW1 : Hid _ := hW1
 go_enter Tryz.func117, Tryz.ntmps117
 go_wp2_with (go_at_call 43; refine hM.mono ?_; rintro e w1 ⟨rfl, hb1⟩; refine Hid.out ?_)
 rw [hW1.out] at hb1
 clear hM hW1
 replace hb0 := hb0.trans (hb1.mono hb0.size)
 replace ht := a0d hb1 ht
 replace hk := a0d hb1 hk
 replace hv := a0d hb1 hv
 replace hr := a0d hb1 hr
 clear hb1
 obtain ⟨k0, k1, k2, _, _, _⟩ := in3 hk
 obtain ⟨v0, v1, v2, _, _, _⟩ := in3 hv
 have r0 : w1.cell? ⟨w.heap.size + 1 + 1 + 1, 0, none⟩ = some (.slice none 0 0) := a0a hr rfl
 have r1 : w1.cell? ⟨w.heap.size + 1 + 1 + 1, 1, none⟩ = some (.slice none 0 0) := a0a hr rfl
 have f0 : w1.frozen? ⟨w.heap.size + 1 + 1 + 1, 0, none⟩ = false := a0e hr
 have f1 : w1.frozen? ⟨w.heap.size + 1 + 1 + 1, 1, none⟩ = false := a0e hr
 refine Lib.hid ?_
 go_wp2_with (go_at_call_of 60 k; refine (hV0 _).mono ?_; rintro e w2 ⟨rfl, hb1⟩; refine Hid.out ?_)
 clear k0 k1 k2 v0 v1 v2 r0 r1 f0 f1
 replace hb0 := hb0.trans (hb1.mono hb0.size)
 replace ht := a0d hb1 ht
 replace hk := a0d hb1 hk
 replace hv := a0d hb1 hv
 replace hr := a0d hb1 hr
 clear hb1
 obtain ⟨k0, k1, k2, _, _, _⟩ := in3 hk
 obtain ⟨v0, v1, v2, _, _, _⟩ := in3 hv
 have r0 : w2.cell? ⟨w.heap.size + 1 + 1 + 1, 0, none⟩ = some (.slice none 0 0) := a0a hr rfl
 have r1 : w2.cell? ⟨w.heap.size + 1 + 1 + 1, 1, none⟩ = some (.slice none 0 0) := a0a hr rfl
 have f0 : w2.frozen? ⟨w.heap.size + 1 + 1 + 1, 0, none⟩ = false := a0e hr
 have f1 : w2.frozen? ⟨w.heap.size + 1 + 1 + 1, 1, none⟩ = false := a0e hr
 refine Lib.hid ?_
 go_wp2_with (go_at_call_of 60 v; refine (hV1 _).mono ?_; rintro e w3 ⟨rfl, hb1⟩; refine Hid.out ?_)
 clear k0 k1 k2 v0 v1 v2 r0 r1 f0 f1
 replace hb0 := hb0.trans (hb1.mono hb0.size)
 replace ht := a0d hb1 ht
 replace hk := a0d hb1 hk
 replace hv := a0d hb1 hv
 replace hr := a0d hb1 hr
 clear hb1
 obtain ⟨k0, k1, k2, _, _, _⟩ := in3 hk
 obtain ⟨v0, v1, v2, _, _, _⟩ := in3 hv
 have r0 : w3.cell? ⟨w.heap.size + 1 + 1 + 1, 0, none⟩ = some (.slice none 0 0) := a0a hr rfl
 have r1 : w3.cell? ⟨w.heap.size + 1 + 1 + 1, 1, none⟩ = some (.slice none 0 0) := a0a hr rfl
 have f0 : w3.frozen? ⟨w.heap.size + 1 + 1 + 1, 0, none⟩ = false := a0e hr
 have f1 : w3.frozen? ⟨w.heap.size + 1 + 1 + 1, 1, none⟩ = false := a0e hr
 refine Lib.hid ?_
 go_wp2
 exact bodyPost_ret (b2q rfl rfl (a1t hr)) rfl ⟨rfl, a1g _ _ hb0 (by omega)⟩
theorem d1p (ks vs : Value) (xs ys : List Vl) (k v : Vl) (w : World) (hT : Tab w.heap.size w ks vs xs ys) (h : mayT xs ys = true) (h1 : mayB k.k k.n k.s = true) (h2 : mayB v.k v.n v.s = true) (h3 : (k.k == 0) = true) :
  Calls Tryz.prog 117 #[.agg #[ks, vs], k.v, v.v] w fun e w' => e = .returned (.tuple #[.agg #[.slice none 0 0, .slice none 0 0], .int .i64 3]) ∧ Below w.heap.size w w' := by
 obtain ⟨a, c1, rfl, _, _⟩ := hT.keys
 obtain ⟨a', c2, rfl, _, _⟩ := hT.vals
 obtain ⟨W1, hW1⟩ := exq ((((w.alloc (.cells #[.slice a xs.length c1, .slice a' ys.length c2] 57)).alloc (bx k)).alloc (bx v)).alloc a3k)
 obtain ⟨hs1, hb0, ht, hk, hv, hr⟩ := a5b w _ k v hW1
 have hM := a8r h (.slice a xs.length c1) (.slice a' ys.length c2) _ ((hT.below hb0).mono hb0.size)
 rw [← hW1] at hM
 have hV0 := fun u => a4o k.k k.n k.s u
 rw [h1] at hV0
 have hV1 := fun u => a4o v.k v.n v.s u
 rw [h2] at hV1
 clear h h1 h2
 replace hW1 : Hid _ := hW1
 go_enter Tryz.func117, Tryz.ntmps117
 go_wp2_with (go_at_call 43; refine hM.mono ?_; rintro e w1 ⟨rfl, hb1⟩; refine Hid.out ?_)
 rw [hW1.out] at hb1
 clear hM hW1
 replace hb0 := hb0.trans (hb1.mono hb0.size)
 replace ht := a0d hb1 ht
 replace hk := a0d hb1 hk
 replace hv := a0d hb1 hv
 replace hr := a0d hb1 hr
 clear hb1
 obtain ⟨k0, k1, k2, _, _, _⟩ := in3 hk
 obtain ⟨v0, v1, v2, _, _, _⟩ := in3 hv
 have r0 : w1.cell? ⟨w.heap.size + 1 + 1 + 1, 0, none⟩ = some (.slice none 0 0) := a0a hr rfl
 have r1 : w1.cell? ⟨w.heap.size + 1 + 1 + 1, 1, none⟩ = some (.slice none 0 0) := a0a hr rfl
 have f0 : w1.frozen? ⟨w.heap.size + 1 + 1 + 1, 0, none⟩ = false := a0e hr
 have f1 : w1.frozen? ⟨w.heap.size + 1 + 1 + 1, 1, none⟩ = false := a0e hr
 refine Lib.hid ?_
 go_wp2_with (go_at_call_of 60 k; refine (hV0 _).mono ?_; rintro e w2 ⟨rfl, hb1⟩; refine Hid.out ?_)
 clear k0 k1 k2 v0 v1 v2 r0 r1 f0 f1
 replace hb0 := hb0.trans (hb1.mono hb0.size)
 replace ht := a0d hb1 ht
 replace hk := a0d hb1 hk
 replace hv := a0d hb1 hv
 replace hr := a0d hb1 hr
 clear hb1
 obtain ⟨k0, k1, k2, _, _, _⟩ := in3 hk
 obtain ⟨v0, v1, v2, _, _, _⟩ := in3 hv
 have r0 : w2.cell? ⟨w.heap.size + 1 + 1 + 1, 0, none⟩ = some (.slice none 0 0) := a0a hr rfl
 have r1 : w2.cell? ⟨w.heap.size + 1 + 1 + 1, 1, none⟩ = some (.slice none 0 0) := a0a hr rfl
 have f0 : w2.frozen? ⟨w.heap.size + 1 + 1 + 1, 0, none⟩ = false := a0e hr
 have f1 : w2.frozen? ⟨w.heap.size + 1 + 1 + 1, 1, none⟩ = false := a0e hr
 refine Lib.hid ?_
 go_wp2_with (go_at_call_of 60 v; refine (hV1 _).mono ?_; rintro e w3 ⟨rfl, hb1⟩; refine Hid.out ?_)
 clear k0 k1 k2 v0 v1 v2 r0 r1 f0 f1
 replace hb0 := hb0.trans (hb1.mono hb0.size)
 replace ht := a0d hb1 ht
 replace hk := a0d hb1 hk
 replace hv := a0d hb1 hv
 replace hr := a0d hb1 hr
 clear hb1
 obtain ⟨k0, k1, k2, _, _, _⟩ := in3 hk
 obtain ⟨v0, v1, v2, _, _, _⟩ := in3 hv
 have r0 : w3.cell? ⟨w.heap.size + 1 + 1 + 1, 0, none⟩ = some (.slice none 0 0) := a0a hr rfl
 have r1 : w3.cell? ⟨w.heap.size + 1 + 1 + 1, 1, none⟩ = some (.slice none 0 0) := a0a hr rfl
 have f0 : w3.frozen? ⟨w.heap.size + 1 + 1 + 1, 0, none⟩ = false := a0e hr
 have f1 : w3.frozen? ⟨w.heap.size + 1 + 1 + 1, 1, none⟩ = false := a0e hr
 refine Lib.hid ?_
 go_wp2
 exact bodyPost_ret (b2q rfl rfl (a1t hr)) rfl ⟨rfl, a1g _ _ hb0 (by omega)⟩
end
section
attribute [local go_sem] Oper.semAt_some
variable [DecidableEq Vl]
theorem b1m (base : Nat) (ks vs : Value) (P : List (Vl × Vl)) (k v : Vl) (w : World) (ho : Own2 base w ks vs (keysOf P) (a0q P)) (hb : base ≤ w.heap.size) (hx : P.length ≤ 200) :
  Calls Tryz.prog 125 #[.agg #[ks, vs], k.v, v.v] w fun e w' => ∃ a n c a' n' c', e = .returned (.agg #[.slice a n c, .slice a' n' c']) ∧ Own2 base w' (.slice a n c) (.slice a' n' c') (keysOf (P ++ [(k, v)].filter full)) (a0q (P ++ [(k, v)].filter full)) ∧ Fr w w' ks vs := by
 obtain ⟨a, n1, c1, rfl⟩ : ∃ a n c, ks = .slice a n c := by rcases ho.k.2 with ⟨rfl, _⟩ | ⟨g, cap, cur, rfl, _⟩ <;> exact ⟨_, _, _, rfl⟩
 obtain ⟨a', n2, c2, rfl⟩ : ∃ a n c, vs = .slice a n c := by rcases ho.v.2 with ⟨rfl, _⟩ | ⟨g, cap, cur, rfl, _⟩ <;> exact ⟨_, _, _, rfl⟩
 cases h : (v.k == 0)
 ·have e : [(k, v)].filter full = [(k, v)] := by simp [full, h]
  rw [e]
  refine (b9m base _ _ _ _ k v w ho hb (by simpa using hx) (by simpa using hx) h).mono ?_
  rintro e w' ⟨ks', vs', rfl, ho', hf⟩
  obtain ⟨b, m1, d1, rfl⟩ : ∃ a n c, ks' = .slice a n c := by rcases ho'.k.2 with ⟨rfl, _⟩ | ⟨g, cap, cur, rfl, _⟩ <;> exact ⟨_, _, _, rfl⟩
  obtain ⟨b', m2, d2, rfl⟩ : ∃ a n c, vs' = .slice a n c := by rcases ho'.v.2 with ⟨rfl, _⟩ | ⟨g, cap, cur, rfl, _⟩ <;> exact ⟨_, _, _, rfl⟩
  exact ⟨_, _, _, _, _, _, rfl, by simpa [keysOf, a0q] using ho', hf⟩
 ·have e : [(k, v)].filter full = [] := by simp [full, h]
  rw [e, List.append_nil]
  refine (c3y a n1 c1 a' n2 c2 k v w h).mono ?_
  rintro e w' ⟨rfl, hbw⟩
  exact ⟨_, _, _, _, _, _, rfl, ho.below hbw, Fr.of_below _ _ hbw⟩
theorem Fr.keeps (h : Fr W W' ks vs) (ho : Own2 base W ks vs xs ys) : KeepsFrom B W W' :=
 ⟨h.size, fun k o _ hk hc => (h.block k (Array.getElem?_eq_some_iff.1 hk).1
  (fun e => by obtain ⟨_, _, cur, hh⟩ := a0z ho.k e; rw [hk] at hh; cases hh; cases hc)
  (fun e => by obtain ⟨_, _, cur, hh⟩ := a0z ho.v e; rw [hk] at hh; cases hh; cases hc)).trans hk⟩
theorem b2r {A A' : World} (h : Own2 base A ks vs xs ys) (hg : A.grownBy A' row) (hr : ∀ r, row = some r → B ≤ r ∧ ∃ o : Obj, A.heap[r]? = some o ∧ o.isCells = false) : Own2 base A' ks vs xs ys :=
 h.kept (fun b hb => by
  obtain ⟨_, hl, cur, hh⟩ := hb.elim (fun e => a0z h.k e) (fun e => a0z h.v e)
  exact hg.block b hl (fun e => by obtain ⟨_, o, ho, hc⟩ := hr b e.symm; rw [hh] at ho; cases ho; cases hc))
theorem a4y (base : Nat) (W : World) : Own2 base W (.slice none 0 0) (.slice none 0 0) [] [] := ⟨World.ownsRow_nil _ _ _ _, World.ownsRow_nil _ _ _ _, fun b h => by simp [Value.ownBlock] at h⟩
theorem b5i {v : Value} {xs : List Value} (h : W.ownsRow b 30 3 v n xs) (hc : c ≤ b) : W.ownsRow c 30 3 v n xs := by
 refine ⟨h.1, h.2.imp id ?_⟩
 rintro ⟨g, cap, cur, e, hb, hr⟩
 exact ⟨g, cap, cur, e, by omega, hr⟩
theorem Own2.weak (h : Own2 b W ks vs xs ys) (hc : c ≤ b) : Own2 c W ks vs xs ys :=
 ⟨b5i h.k hc, b5i h.v hc, h.ne⟩
theorem b3z {b : Option Addr} {d : Nat} {xs : List Value} (h : W.ownsRow base 30 3 (.slice b m d) n xs) : m = n := by
 rcases h.2 with ⟨e, h0⟩ | ⟨g, cap, cur, e, _⟩
 ·cases e; exact h0.symm
 ·cases e; rfl
theorem b1n {D : Nat} {p : Value} {o' : Obj} (h : Own2 base W ks vs xs ys) (hc : ks.ownBlock = some c ∨ vs.ownBlock = some c) (hD : W.heap[D]? = some o) (ho : o.isCells = false) (hB : B < base) :
  (((W.setCell ⟨B, 0, none⟩ p).setCell ⟨B, 1, none⟩ q).putObj D o').heap[c]? = W.heap[c]? := by
 obtain ⟨hge, _, cur, hh⟩ := hc.elim (fun e => a0z h.k e) (fun e => a0z h.v e)
 refine (World.putObj_heap_other (fun e => ?_)).trans (a2h _ _ _ (by omega))
 subst e
 rw [hD] at hh
 cases hh
 cases ho
structure SI (base B4 : Nat) (w : World) (k v : Vl) (pre : List (Vl × Vl)) (a : Option Addr) (n c : Nat) (a' : Option Addr) (n' c' : Nat) (W : World) : Prop where
 own : Own2 base W (.slice a n c) (.slice a' n' c') (keysOf (part k v pre)) (a0q (part k v pre))
 u : W.heap[B4]? = some (.cells #[.slice a n c, .slice a' n' c'] 57)
 st : W.heap[B4 + 1]? = some (.cells #[.bool (met k pre)] 4)
 hk : W.heap[w.heap.size + 1]? = some (bx k)
 hv : W.heap[w.heap.size + 1 + 1]? = some (bx v)
 hr : W.heap[w.heap.size + 1 + 1 + 1]? = some a3k
 sz : base ≤ W.heap.size
 bl : Below w.heap.size w W
theorem a8z {B4 Bt : Nat} {Wx : World} {pre : List (Vl × Vl)} {P : List (Vl × Vl)} {x : Vl × Vl} (ho : Own2 base Wx ks vs (keysOf P) (a0q P)) (hu : Wx.heap[B4]? = some (.cells #[ks, vs] 57)) (hst : Wx.heap[B4 + 1]? = some (.cells #[.bool (met k (pre ++ [x]))] 4)) (hk : Wx.heap[w.heap.size + 1]? = some (bx k)) (hv : Wx.heap[w.heap.size + 1 + 1]? = some (bx v)) (hr : Wx.heap[w.heap.size + 1 + 1 + 1]? = some a3k) (sz : base ≤ Wx.heap.size) (bl : Below w.heap.size w Wx) (hKF : KeepsFrom base W Wx) (hKp : Kept w.heap.size Bt W Wx) (h4 : w.heap.size + 4 ≤ B4) (hb : B4 + 3 ≤ base) (hBt : Bt = B4 + 1 + 1) (ho' : Own2 base W' (.slice a n c) (.slice a' n' c') (keysOf (part k v (pre ++ [x]))) (a0q (part k v (pre ++ [x])))) (hf : Fr Wx W' ks vs) :
  KeepsFrom base W ((W'.setCell ⟨B4, 0, none⟩ (.slice a n c)).setCell ⟨B4, 1, none⟩ (.slice a' n' c')) ∧ Kept w.heap.size Bt W ((W'.setCell ⟨B4, 0, none⟩ (.slice a n c)).setCell ⟨B4, 1, none⟩ (.slice a' n' c')) ∧
   SI base B4 w k v (pre ++ [x]) a n c a' n' c' ((W'.setCell ⟨B4, 0, none⟩ (.slice a n c)).setCell ⟨B4, 1, none⟩ (.slice a' n' c')) := by
 have hbe := hf.below ho sz
 have far : ∀ {C : Nat} {o : Obj}, C < base → C ≠ B4 → Wx.heap[C]? = some o → ((W'.setCell ⟨B4, 0, none⟩ (.slice a n c)).setCell ⟨B4, 1, none⟩ (.slice a' n' c')).heap[C]? = some o := fun hC hne h => (a2h _ _ _ hne).trans ((hbe.block _ hC).trans h)
 refine ⟨hKF.trans ((hf.keeps ho).trans ((a3m _ _ _ _).from _)), hKp.trans ⟨a1g _ _ (hbe.mono (by omega)) (by omega), (a2h _ _ _ (by omega)).trans (hbe.block _ (by omega))⟩, ?_⟩
 refine ⟨ho'.kept (fun b hb' => a2h _ _ _ ?_), a1t ((hbe.block _ (by omega)).trans hu), far (by omega) (by omega) hst, far (by omega) (by omega) hk, far (by omega) (by omega) hv, far (by omega) (by omega) hr, Nat.le_trans sz (Nat.le_trans hf.size (a3m _ _ _ _).size), a1g _ _ (bl.trans (hbe.mono (by omega))) (by omega)⟩
 have := hb'.elim (fun e => (a0z ho'.k e).1) (fun e => (a0z ho'.v e).1)
 omega
theorem d1q (n : Nat) (h3 : 3 ≤ n) (ks vs : Value) (zs : List (Vl × Vl)) (hlen : zs.length ≤ 100) (k v : Vl) (w : World) (hT : Tab w.heap.size w ks vs (keysOf zs) (a0q zs)) (h : mayT (keysOf zs) (a0q zs) = true) (h1 : mayB k.k k.n k.s = true) (h2 : mayB v.k v.n v.s = true) (hk0 : (k.k == 0) = false) :
  CallsIn Fence.wide n Tryz.prog 117 #[.agg #[ks, vs], k.v, v.v] w fun e w' => ∃ a m c a' m' c', e = .returned (.tuple #[.agg #[.slice a m c, .slice a' m' c'], .int .i64 (if 100 < (setZ k v zs).length then 1 else 0)]) ∧
   Own2 w.heap.size w' (.slice a m c) (.slice a' m' c') (keysOf (if 100 < (setZ k v zs).length then [] else setZ k v zs)) (a0q (if 100 < (setZ k v zs).length then [] else setZ k v zs)) ∧ Below w.heap.size w w' := by
 have hn0 : 1 ≤ n := by omega
 have hn1 : 1 ≤ n - 1 := by omega
 have hn2 : 1 ≤ n - 1 - 1 := by omega
 obtain ⟨a, c1, hks⟩ := hT.keys.slice
 obtain ⟨a', c2, hvs⟩ := hT.vals.slice
 simp only [keysOf, a0q, List.length_map] at hks hvs
 subst hks hvs
 obtain ⟨W1, hW1⟩ := exq ((((w.alloc (.cells #[.slice a zs.length c1, .slice a' zs.length c2] 57)).alloc (bx k)).alloc (bx v)).alloc a3k)
 obtain ⟨hs1, hb0, ht, hk, hv, hr⟩ := a5b w _ k v hW1
 have hM := a8r h (.slice a zs.length c1) (.slice a' zs.length c2) _ ((hT.below hb0).mono hb0.size)
 rw [← hW1] at hM
 have hV0 := fun u => a4o k.k k.n k.s u
 rw [h1] at hV0
 have hV1 := fun u => a4o v.k v.n v.s u
 rw [h2] at hV1
 clear h h1 h2
 replace hW1 : Hid _ := hW1
 replace hT : Hid _ := hT
 refine callsIn_of_wp_marks Tryz.func117 rfl trivial ?_ rfl
 simp only [Tryz.ntmps117, List.size_toArray, List.length_cons, List.length_nil, Nat.reduceAdd, Nat.reduceSub, Array.replicate_succ, Array.replicate_zero, List.push_toArray, List.append_toArray, List.nil_append, List.cons_append]
 gi_wp2_with (refine ⟨trivial, ?_⟩; gi_at_call 43; refine (callsIn_wide.2 hM).mono ?_; rintro e w1 ⟨rfl, hb1⟩; refine Hid.out ?_)
 rw [hW1.out] at hb1
 clear hM hW1
 replace hb0 := hb0.trans (hb1.mono hb0.size)
 replace ht := a0d hb1 ht
 replace hk := a0d hb1 hk
 replace hv := a0d hb1 hv
 replace hr := a0d hb1 hr
 have hz1 : w.heap.size + 4 ≤ w1.heap.size := by have := hb1.size; omega
 clear hb1
 obtain ⟨k0, k1, k2, _, _, _⟩ := in3 hk
 refine Lib.hid ?_
 gi_wp2_with (refine ⟨trivial, ?_⟩; gi_at_call 60; refine (callsIn_wide.2 (hV0 _)).mono ?_; rintro e w2 ⟨rfl, hb1⟩; refine Hid.out ?_)
 replace hb0 := hb0.trans (hb1.mono hb0.size)
 replace ht := a0d hb1 ht
 replace hk := a0d hb1 hk
 replace hv := a0d hb1 hv
 replace hr := a0d hb1 hr
 replace hz1 : w.heap.size + 4 ≤ w2.heap.size := Nat.le_trans hz1 hb1.size
 clear hb1 k0 k1 k2 hV0
 obtain ⟨v0, v1, v2, _, _, _⟩ := in3 hv
 refine Lib.hid ?_
 gi_wp2_with (refine ⟨trivial, ?_⟩; gi_at_call 60; refine (callsIn_wide.2 (hV1 _)).mono ?_; rintro e w3 ⟨rfl, hb1⟩; refine Hid.out ?_)
 replace hb0 := hb0.trans (hb1.mono hb0.size)
 replace ht := a0d hb1 ht
 replace hk := a0d hb1 hk
 replace hv := a0d hb1 hv
 replace hr := a0d hb1 hr
 replace hz1 : w.heap.size + 4 ≤ w3.heap.size := Nat.le_trans hz1 hb1.size
 clear hb1 v0 v1 v2 hV1
 obtain ⟨k0, k1, k2, _, _, _⟩ := in3 hk
 have x0 : ((w3.alloc a3k).alloc (.cells #[.bool false] 4)).cell? ⟨w.heap.size, 0, none⟩ = some (.slice a zs.length c1) := a2n _ (a2n _ (a0a ht rfl))
 have x1 : ((w3.alloc a3k).alloc (.cells #[.bool false] 4)).cell? ⟨w.heap.size, 1, none⟩ = some (.slice a' zs.length c2) := a2n _ (a2n _ (a0a ht rfl))
 refine Lib.hid ?_
 gi_wp2_with (refine ⟨trivial, ?_⟩; gi_at_call 62; refine (a7a _ _ _ _).mono ?_; rintro e w' ⟨rfl, rfl⟩)
 obtain ⟨W0, hW0⟩ := exq (((w3.alloc a3k).alloc (.cells #[.bool false] 4)).alloc (.cells #[.slice a zs.length c1, .slice a' zs.length c2] 57))
 have hs0 : W0.heap.size = w3.heap.size + 3 := by rw [← hW0]; simp
 have hb2 : Below w.heap.size w W0 := by rw [← hW0]; exact ((hb0.alloc (by omega) _).alloc (by simp; omega) _).alloc (by simp; omega) _
 have hbt : W0.heap[w3.heap.size + 1 + 1]? = some (.cells #[.slice a zs.length c1, .slice a' zs.length c2] 57) := by
  have := World.alloc_heap_new ((w3.alloc a3k).alloc (.cells #[.bool false] 4)) (.cells #[.slice a zs.length c1, .slice a' zs.length c2] 57)
  simp only [World.size_alloc] at this
  rw [← hW0]; exact this
 have hu : W0.heap[w3.heap.size]? = some a3k := by rw [← hW0]; exact a0g _ (a0g _ (World.alloc_heap_new _ _))
 have hst : W0.heap[w3.heap.size + 1]? = some (.cells #[.bool false] 4) := by
  have := a0g (.cells #[.slice a zs.length c1, .slice a' zs.length c2] 57) (World.alloc_heap_new (w3.alloc a3k) (.cells #[.bool false] 4))
  simp only [World.size_alloc] at this
  rw [← hW0]; exact this
 replace hr : W0.heap[w.heap.size + 1 + 1 + 1]? = some a3k := by rw [← hW0]; exact a0g _ (a0g _ (a0g _ hr))
 replace hk : W0.heap[w.heap.size + 1]? = some (bx k) := by rw [← hW0]; exact a0g _ (a0g _ (a0g _ hk))
 replace hv : W0.heap[w.heap.size + 1 + 1]? = some (bx v) := by rw [← hW0]; exact a0g _ (a0g _ (a0g _ hv))
 dsimp only [a3k] at hW0
 rw [hW0]
 clear hW0 x0 x1 ht k0 k1 k2
 have S0 : SI W0.heap.size w3.heap.size w k v [] none 0 0 none 0 0 W0 := ⟨⟨World.ownsRow_nil _ _ _ _, World.ownsRow_nil _ _ _ _, fun b e => by simp [Value.ownBlock] at e⟩, hu, hst, hk, hv, hr, Nat.le_refl _, hb2⟩
 clear hu hst hk hv hr
 refine wpIn_rangeFunc_ownH rfl hn0 (gf := 94) (lb := #[.pointer (some ⟨w3.heap.size + 1 + 1, 0, none⟩)]) rfl trivial (enters_of Tryz.func94 (by kernel_rfl) rfl)
  (a4n (n - 1) (w3.heap.size + 1 + 1) w.heap.size _ _ zs hlen W0 (by omega) (by omega) hbt (hT.out.below hb2)) (fun h k => h.trans k) (Kept.putObj (by omega) (by omega)) (Below.refl _ _) (fun _ => rfl)
  (fun (pre : List (Vl × Vl)) W => ∃ b m d b' m' d', SI W0.heap.size w3.heap.size w k v pre b m d b' m' d' W)
  (fun _ _ _ => False)
  (fun s A B row hs hg hr => by
   obtain ⟨b, m, d, b', m', d', hS⟩ := hs
   exact ⟨b, m, d, b', m', d', b2r hS.own hg hr, (a0y (β := Unit) _ (by omega)) () A B row hS.u hg hr, (a0y (β := Unit) _ (by omega)) () A B row hS.st hg hr, (a0y (β := Unit) _ (by omega)) () A B row hS.hk hg hr, (a0y (β := Unit) _ (by omega)) () A B row hS.hv hg hr, (a0y (β := Unit) _ (by omega)) () A B row hS.hr hg hr, Nat.le_trans hS.sz hg.size, (ownFrom_below (β := Unit) (B := W0.heap.size) (Nat.le_refl _) (by omega)) () A B row hS.bl hg hr⟩)
  (fun _ _ _ _ _ hs _ _ => hs)
  ⟨_, _, _, _, _, _, S0⟩
  (fun x q W => ∃ Bx By, W0.heap.size ≤ Bx ∧ W0.heap.size ≤ By ∧ W.heap[Bx]? = some (bx x.1) ∧ W.heap[By]? = some (bx x.2) ∧ Bx ≠ By ∧ (∀ p q, W.heap[w3.heap.size]? = some (.cells #[p, q] 57) → p.ownBlock ≠ some By ∧ q.ownBlock ≠ some By ∧ p.ownBlock ≠ some Bx ∧ q.ownBlock ≠ some Bx) ∧ q = { tmps := #[.agg #[.slice a zs.length c1, .slice a' zs.length c2], k.v, v.v, .pointer (some ⟨w.heap.size, 0, none⟩), .pointer (some ⟨w.heap.size + 1, 0, none⟩), .pointer (some ⟨w.heap.size + 1 + 1, 0, none⟩), .pointer (some ⟨w.heap.size + 1 + 1 + 1, 0, none⟩), .int .i64 0, .pointer (some ⟨w3.heap.size, 0, none⟩), .pointer (some ⟨w3.heap.size + 1, 0, none⟩), .pointer (some ⟨Bx, 0, none⟩), .pointer (some ⟨By, 0, none⟩), .agg #[.slice a zs.length c1, .slice a' zs.length c2], .bool true, .bool false, .bool false, k.v, .bool true, .bool false, .bool false, .bool false, v.v, .bool true, .bool false, .bool false, undef, .pointer (some ⟨w.heap.size + 1, 0, none⟩), .int .i64 k.k, .bool false, undef, .agg #[.slice a zs.length c1, .slice a' zs.length c2], .func (.func 94) #[] #[.pointer (some ⟨w3.heap.size + 1 + 1, 0, none⟩)], x.1.v, x.2.v, undef, undef, undef, undef, undef, undef, undef, undef, undef, undef, undef, undef, undef, undef, undef, undef, undef, undef, undef, undef], defers := [] })
  (fun x q => fun _ A B row hs hg hr => by
   obtain ⟨Bx, By, e1, e1', e2, e3, e4, e5, e6⟩ := hs
   have far : ∀ {C : Nat} {y : Vl}, A.heap[C]? = some (bx y) → B.heap[C]? = some (bx y) := fun {C y} hh => (hg.block C (Array.getElem?_eq_some_iff.1 hh).1 (fun e => by obtain ⟨_, o, ho, hc⟩ := hr C e.symm; rw [hh] at ho; cases ho; cases hc)).trans hh
   refine ⟨Bx, By, e1, e1', far e2, far e3, e4, fun p q hpq => e5 p q ?_, e6⟩
   have hlt : w3.heap.size < A.heap.size := by have := (Array.getElem?_eq_some_iff.1 e2).1; omega
   rw [hg.block _ hlt (fun e => by have := (hr _ e.symm).1; omega)] at hpq
   exact hpq)
  ?assign ?body ?done ?stop
 case assign =>
  rintro l pre x W K ⟨b, m, d, b', m', d', hS⟩ hK
  gi_wp2
  have hb' : Below W.heap.size W ((W.alloc (bx x.1)).alloc (bx x.2)) := ((Below.refl _ _).alloc (Nat.le_refl _) _).alloc (by simp) _
  have hsz := hS.sz
  refine hK _ _ (a1l hb') (a2s hb' (by omega) (by omega)) ⟨b, m, d, b', m', d', hS.own.below hb', a0d hb' hS.u, a0d hb' hS.st, a0d hb' hS.hk, a0d hb' hS.hv, a0d hb' hS.hr, Nat.le_trans hsz hb'.size, hS.bl.trans (hb'.mono (by omega))⟩ ⟨W.heap.size, W.heap.size + 1, hsz, by omega, a0g _ (World.alloc_heap_new _ _), by have := World.alloc_heap_new (W.alloc (bx x.1)) (bx x.2); simpa only [World.size_alloc] using this, by omega, fun p q hpq => ?_, rfl⟩
  rw [a0d hb' hS.u] at hpq
  simp only [Option.some.injEq, Obj.cells.injEq, Array.mk.injEq, List.cons.injEq, and_true] at hpq
  obtain ⟨rfl, rfl⟩ := hpq
  refine ⟨fun e => ?_, fun e => ?_, fun e => ?_, fun e => ?_⟩
  ·have := (a0z hS.own.k e).2.1; omega
  ·have := (a0z hS.own.v e).2.1; omega
  ·have := (a0z hS.own.k e).2.1; omega
  ·have := (a0z hS.own.v e).2.1; omega
 case body =>
  rintro l pre ⟨x1, y⟩ q W hl ⟨r, hr⟩ ⟨b, m, d, b', m', d', hS⟩ ⟨Bx, By, hBx, hBy, t1, t2, hne, hfr, rfl⟩ hlt
  clear hr hT hbt hb2 S0 hb0
  rename_i Kd ad
  clear ad Kd
  have hpl := a9l k v pre
  by_cases hx : x1 = k
  ·have hx' : k = x1 := hx.symm
   subst hx'
   clear hx
   -- the new value stands in the pair's place
   obtain ⟨hfy, hfy', _, _⟩ := hfr _ _ hS.u
   dsimp only at t1 t2
   have szb := hS.sz
   have Wx_own : Own2 W0.heap.size ((put3 W By v).setCell ⟨w3.heap.size + 1, 0, none⟩ (.bool true)) (.slice b m d) (.slice b' m' d') (keysOf (part k v pre)) (a0q (part k v pre)) := hS.own.kept (fun c hc => by
    have hge := hc.elim (fun e => (a0z hS.own.k e).1) (fun e => (a0z hS.own.v e).1)
    have hcy : c ≠ By := fun e => hc.elim (fun e' => hfy (e ▸ e')) (fun e' => hfy' (e ▸ e'))
    exact (a0f _ _ (by omega)).trans (a1o _ v hcy))
   have far : ∀ {C : Nat} {o : Obj}, C ≠ By → C ≠ w3.heap.size + 1 → W.heap[C]? = some o → ((put3 W By v).setCell ⟨w3.heap.size + 1, 0, none⟩ (.bool true)).heap[C]? = some o := fun h1 h2 h => ((a0f _ _ h2).trans (a1o _ v h1)).trans h
   have Wx_u := far (by omega) (by omega) hS.u
   have Wx_st : ((put3 W By v).setCell ⟨w3.heap.size + 1, 0, none⟩ (.bool true)).heap[w3.heap.size + 1]? = some (.cells #[.bool (met k (pre ++ [(k, y)]))] 4) := by
    rw [b5h, decide_eq_true rfl, Bool.or_true]
    exact Boxed.set _ ((a1o _ v (by omega)).trans hS.st)
   have Wx_hk := far (by omega) (by omega) hS.hk
   have Wx_hv := far (by omega) (by omega) hS.hv
   have Wx_hr := far (by omega) (by omega) hS.hr
   have Wx_key := far hne (by omega) t1
   have Wx_old : ((put3 W By v).setCell ⟨w3.heap.size + 1, 0, none⟩ (.bool true)).heap[By]? = some (bx v) := (a0f _ _ (by omega)).trans (a0o v t2)
   have Wx_keeps : KeepsOthers W ((put3 W By v).setCell ⟨w3.heap.size + 1, 0, none⟩ (.bool true)) := (a4i W By v).trans (KeepsOthers.setCell _ _ _)
   have Wx_sz : W0.heap.size ≤ ((put3 W By v).setCell ⟨w3.heap.size + 1, 0, none⟩ (.bool true)).heap.size := Nat.le_trans szb Wx_keeps.size
   have Wx_bl : Below w.heap.size w ((put3 W By v).setCell ⟨w3.heap.size + 1, 0, none⟩ (.bool true)) := (a0r v hS.bl (by omega)).setCell (p := ⟨w3.heap.size + 1, 0, none⟩) (by show w.heap.size ≤ w3.heap.size + 1; omega) _
   have Wx_kp : Kept w.heap.size (w3.heap.size + 1 + 1) W ((put3 W By v).setCell ⟨w3.heap.size + 1, 0, none⟩ (.bool true)) := ⟨(a0r v (Below.refl _ _) (by omega)).setCell (p := ⟨w3.heap.size + 1, 0, none⟩) (by show w.heap.size ≤ w3.heap.size + 1; omega) _, (a0f _ _ (by omega)).trans (a1o _ v (by omega))⟩
   have hC := b1m W0.heap.size _ _ (part k v pre) k v _ Wx_own Wx_sz (by omega)
   have hE : part k v pre ++ [(k, v)].filter full = part k v (pre ++ [(k, y)]) := by rw [b2p]; simp [swap]
   rw [hE] at hC
   obtain ⟨y0, y1, y2, g0, g1, g2⟩ := in3 t2
   obtain ⟨q0, q1, q2, _, _, _⟩ := in3 t1
   obtain ⟨k0, k1, k2, _, _, _⟩ := in3 hS.hk
   obtain ⟨v0, v1, v2, _, _, _⟩ := in3 hS.hv
   have s0 := Boxed.cell hS.st
   have s1 := Boxed.frozen hS.st
   obtain ⟨Wx, hWx⟩ := exq ((put3 W By v).setCell ⟨w3.heap.size + 1, 0, none⟩ (.bool true))
   rw [hWx] at Wx_own Wx_u Wx_st Wx_hk Wx_hv Wx_hr Wx_key Wx_old Wx_keeps Wx_sz Wx_bl Wx_kp
   replace hWx : Hid _ := hWx
   replace Wx_own : Hid _ := Wx_own
   have u0 : W.cell? ⟨w3.heap.size, 0, none⟩ = some (.slice b m d) := a0a hS.u rfl
   have u1 : W.cell? ⟨w3.heap.size, 1, none⟩ = some (.slice b' m' d') := a0a hS.u rfl
   have ne1 : ¬ w3.heap.size = By := by omega
   have ne2 : ¬ Bx = By := hne
   have ne3 : ¬ Bx = w3.heap.size + 1 := by omega
   have ne4 : ¬ By = w3.heap.size + 1 := by omega
   have ne5 : ¬ w3.heap.size + 1 = By := by omega
   clear hfr hfy hfy' far hS t1 t2 hE
   gi_wp2_with (refine ⟨trivial, ?_⟩; gi_at_call 125; refine (CallsIn.inRound l (callsIn_wide.2 hC)).mono ?_; rintro e W' ⟨a2, m2, d2, a3, m3, d3, rfl, ho', hf⟩; refine Hid.out ?_)
   rw [hWx.out] at hf
   have hbe := hf.below Wx_own.out Wx_sz
   have hu' := (hbe.block _ (by omega)).trans Wx_u
   have z0 : W'.cell? ⟨w3.heap.size, 0, none⟩ = some (.slice b m d) := a0a hu' rfl
   have z1 : W'.cell? ⟨w3.heap.size, 1, none⟩ = some (.slice b' m' d') := a0a hu' rfl
   have z2 : W'.frozen? ⟨w3.heap.size, 0, none⟩ = false := a0e hu'
   have z3 : W'.frozen? ⟨w3.heap.size, 1, none⟩ = false := a0e hu'
   have hend := a8z (Bt := w3.heap.size + 1 + 1) Wx_own.out Wx_u Wx_st Wx_hk Wx_hv Wx_hr Wx_sz Wx_bl (Wx_keeps.from _) Wx_kp (by omega) (by omega) rfl ho' hf
   replace hend : Hid _ := hend
   clear hC hf ho' Wx_own Wx_u Wx_st Wx_hk Wx_hv Wx_hr Wx_key Wx_old Wx_keeps Wx_sz Wx_bl Wx_kp hWx hbe hu' y0 y1 y2 g0 g1 g2 q0 q1 q2 k0 k1 k2 v0 v1 v2 s0 s1 u0 u1 ne1 ne2 ne3 ne4 ne5
   refine Lib.hid ?_
   gi_wp2
   exact ⟨hend.out.1, hend.out.2.1, _, _, _, _, _, _, hend.out.2.2⟩
  ·have hE : part k v pre ++ [(x1, y)].filter full = part k v (pre ++ [(x1, y)]) := by rw [b2p]; simp [swap, hx]
   have hC := b1m W0.heap.size _ _ (part k v pre) x1 y _ hS.own hS.sz (by omega)
   rw [hE] at hC
   have hst : W.heap[w3.heap.size + 1]? = some (.cells #[.bool (met k (pre ++ [(x1, y)]))] 4) := by
    rw [b5h, decide_eq_false hx, Bool.or_false]
    exact hS.st
   dsimp only at t1 t2
   obtain ⟨y0, y1, y2, _, _, _⟩ := in3 t2
   obtain ⟨q0, q1, q2, _, _, _⟩ := in3 t1
   obtain ⟨k0, k1, k2, _, _, _⟩ := in3 hS.hk
   have u0 : W.cell? ⟨w3.heap.size, 0, none⟩ = some (.slice b m d) := a0a hS.u rfl
   have u1 : W.cell? ⟨w3.heap.size, 1, none⟩ = some (.slice b' m' d') := a0a hS.u rfl
   have hsz := hS.sz
   replace hS : Hid _ := hS
   replace hx : Hid _ := hx
   clear hfr t1 t2 hE
   obtain ⟨xk, xn, xs, wk, wn, ws⟩ := x1
   dsimp only [Vl.v] at hC q0 q1 q2
   by_cases e1 : xk = k.k
   ·subst e1
    by_cases e2 : xn = k.n
    ·subst e2
     have e3 : ¬ xs.toList = k.s.toList := fun e => hx.out (Vl.ext' rfl rfl e)
     gi_wp2_with (refine ⟨trivial, ?_⟩; gi_at_call 125; refine (CallsIn.inRound l (callsIn_wide.2 hC)).mono ?_; rintro e W' ⟨a2, m2, d2, a3, m3, d3, rfl, ho', hf⟩; refine Hid.out ?_)
     have hbe := hf.below hS.out.own hsz
     have hu' := (hbe.block _ (by omega)).trans hS.out.u
     have z0 : W'.cell? ⟨w3.heap.size, 0, none⟩ = some (.slice b m d) := a0a hu' rfl
     have z1 : W'.cell? ⟨w3.heap.size, 1, none⟩ = some (.slice b' m' d') := a0a hu' rfl
     have z2 : W'.frozen? ⟨w3.heap.size, 0, none⟩ = false := a0e hu'
     have z3 : W'.frozen? ⟨w3.heap.size, 1, none⟩ = false := a0e hu'
     have hend := a8z (Bt := w3.heap.size + 1 + 1) hS.out.own hS.out.u hst hS.out.hk hS.out.hv hS.out.hr hsz hS.out.bl (KeepsFrom.refl _ _) (Kept.refl _ _ _) (by omega) (by omega) rfl ho' hf
     replace hend : Hid _ := hend
     clear hC hf ho' hst hbe hu' y0 y1 y2 q0 q1 q2 k0 k1 k2 u0 u1
     refine Lib.hid ?_
     gi_wp2
     exact ⟨hend.out.1, hend.out.2.1, _, _, _, _, _, _, hend.out.2.2⟩
    ·gi_wp2_with (refine ⟨trivial, ?_⟩; gi_at_call 125; refine (CallsIn.inRound l (callsIn_wide.2 hC)).mono ?_; rintro e W' ⟨a2, m2, d2, a3, m3, d3, rfl, ho', hf⟩; refine Hid.out ?_)
     have hbe := hf.below hS.out.own hsz
     have hu' := (hbe.block _ (by omega)).trans hS.out.u
     have z0 : W'.cell? ⟨w3.heap.size, 0, none⟩ = some (.slice b m d) := a0a hu' rfl
     have z1 : W'.cell? ⟨w3.heap.size, 1, none⟩ = some (.slice b' m' d') := a0a hu' rfl
     have z2 : W'.frozen? ⟨w3.heap.size, 0, none⟩ = false := a0e hu'
     have z3 : W'.frozen? ⟨w3.heap.size, 1, none⟩ = false := a0e hu'
     have hend := a8z (Bt := w3.heap.size + 1 + 1) hS.out.own hS.out.u hst hS.out.hk hS.out.hv hS.out.hr hsz hS.out.bl (KeepsFrom.refl _ _) (Kept.refl _ _ _) (by omega) (by omega) rfl ho' hf
     replace hend : Hid _ := hend
     clear hC hf ho' hst hbe hu' y0 y1 y2 q0 q1 q2 k0 k1 k2 u0 u1
     refine Lib.hid ?_
     gi_wp2
     exact ⟨hend.out.1, hend.out.2.1, _, _, _, _, _, _, hend.out.2.2⟩
   ·gi_wp2_with (refine ⟨trivial, ?_⟩; gi_at_call 125; refine (CallsIn.inRound l (callsIn_wide.2 hC)).mono ?_; rintro e W' ⟨a2, m2, d2, a3, m3, d3, rfl, ho', hf⟩; refine Hid.out ?_)
    have hbe := hf.below hS.out.own hsz
    have hu' := (hbe.block _ (by omega)).trans hS.out.u
    have z0 : W'.cell? ⟨w3.heap.size, 0, none⟩ = some (.slice b m d) := a0a hu' rfl
    have z1 : W'.cell? ⟨w3.heap.size, 1, none⟩ = some (.slice b' m' d') := a0a hu' rfl
    have z2 : W'.frozen? ⟨w3.heap.size, 0, none⟩ = false := a0e hu'
    have z3 : W'.frozen? ⟨w3.heap.size, 1, none⟩ = false := a0e hu'
    have hend := a8z (Bt := w3.heap.size + 1 + 1) hS.out.own hS.out.u hst hS.out.hk hS.out.hv hS.out.hr hsz hS.out.bl (KeepsFrom.refl _ _) (Kept.refl _ _ _) (by omega) (by omega) rfl ho' hf
    replace hend : Hid _ := hend
    clear hC hf ho' hst hbe hu' y0 y1 y2 q0 q1 q2 k0 k1 k2 u0 u1
    refine Lib.hid ?_
    gi_wp2
    exact ⟨hend.out.1, hend.out.2.1, _, _, _, _, _, _, hend.out.2.2⟩
 case done =>
  rintro D ys W hD rfl ⟨b1, m1, d1, b2, m2, d2, hS⟩ hK
  have hpl := a9l k v ys
  have hsz := hS.sz
  have s0 := Boxed.cell hS.st
  obtain ⟨k0, k1, k2, _, _, _⟩ := in3 hS.hk
  obtain ⟨v0, v1, v2, _, _, _⟩ := in3 hS.hv
  have u0 : W.cell? ⟨w3.heap.size, 0, none⟩ = some (.slice b1 m1 d1) := a0a hS.u rfl
  have u1 : W.cell? ⟨w3.heap.size, 1, none⟩ = some (.slice b2 m2 d2) := a0a hS.u rfl
  have r0 : W.cell? ⟨w.heap.size + 1 + 1 + 1, 0, none⟩ = some (.slice none 0 0) := a0a hS.hr rfl
  have r1 : W.cell? ⟨w.heap.size + 1 + 1 + 1, 1, none⟩ = some (.slice none 0 0) := a0a hS.hr rfl
  have g0 : W.frozen? ⟨w.heap.size + 1 + 1 + 1, 0, none⟩ = false := a0e hS.hr
  have g1 : W.frozen? ⟨w.heap.size + 1 + 1 + 1, 1, none⟩ = false := a0e hS.hr
  clear S0 hb2 hbt hT hb0
  cases hmet : met k ys
  ·have eZ : part k v ys ++ [(k, v)].filter full = setZ k v ys := by unfold setZ; rw [hmet]; simp
   have hC := b1m W0.heap.size _ _ (part k v ys) k v _ hS.own hsz (by omega)
   rw [eZ] at hC
   rw [hmet] at s0
   replace hS : Hid _ := hS
   replace hmet : Hid _ := hmet
   clear eZ
   gi_wp2_with (refine ⟨trivial, ?_⟩; gi_at_call 125; refine (callsIn_wide.2 hC).mono ?_; rintro e W' ⟨b3, m3, d3, b4, m4, d4, rfl, ho', hf⟩; refine Hid.out ?_)
   have hbe := hf.below hS.out.own hsz
   have hu' := (hbe.block _ (by omega)).trans hS.out.u
   have hr' := (hbe.block _ (by omega)).trans hS.out.hr
   have hKf := (hf.keeps (B := 0) hS.out.own).same D _ (Nat.zero_le _) hK rfl
   have bl' := hS.out.bl.trans (hbe.mono (by omega))
   have sz' := Nat.le_trans hsz hf.size
   have z0 : W'.cell? ⟨w3.heap.size, 0, none⟩ = some (.slice b1 m1 d1) := a0a hu' rfl
   have z1 : W'.cell? ⟨w3.heap.size, 1, none⟩ = some (.slice b2 m2 d2) := a0a hu' rfl
   have z2 : W'.frozen? ⟨w3.heap.size, 0, none⟩ = false := a0e hu'
   have z3 : W'.frozen? ⟨w3.heap.size, 1, none⟩ = false := a0e hu'
   clear hC hf k0 k1 k2 v0 v1 v2 u0 u1 r0 r1 g0 g1 s0 hbe
   have ml := b3z ho'.k
   simp only [keysOf, List.length_map] at ml
   have n1 : ¬ w.heap.size + 1 + 1 + 1 = w3.heap.size := by omega
   have n2 : ¬ w3.heap.size = w.heap.size + 1 + 1 + 1 := by omega
   have r0 : W'.cell? ⟨w.heap.size + 1 + 1 + 1, 0, none⟩ = some (.slice none 0 0) := a0a hr' rfl
   have r1 : W'.cell? ⟨w.heap.size + 1 + 1 + 1, 1, none⟩ = some (.slice none 0 0) := a0a hr' rfl
   have g0 : W'.frozen? ⟨w.heap.size + 1 + 1 + 1, 0, none⟩ = false := a0e hr'
   have g1 : W'.frozen? ⟨w.heap.size + 1 + 1 + 1, 1, none⟩ = false := a0e hr'
   have fo := ho'.kept (W' := (W'.setCell ⟨w3.heap.size, 0, none⟩ (.slice b3 m3 d3)).setCell ⟨w3.heap.size, 1, none⟩ (.slice b4 m4 d4)) (fun c hc => a2h _ _ _ (by have := hc.elim (fun e => (a0z ho'.k e).1) (fun e => (a0z ho'.v e).1); omega))
   have fr' := (a2h W' (.slice b3 m3 d3) (.slice b4 m4 d4) n1).trans hr'
   have fb := a1g (.slice b3 m3 d3) (.slice b4 m4 d4) bl' (show w.heap.size ≤ w3.heap.size by omega)
   have fK := (a3m W' w3.heap.size (.slice b3 m3 d3) (.slice b4 m4 d4)).same D _ hKf rfl
   replace fo : Hid _ := fo
   replace ho' : Hid _ := ho'
   clear hu' hr' bl' hKf hK
   refine Lib.hid ?_
   by_cases hbig : 100 < (setZ k v ys).length
   ·have hgt : (100 : Int) < (m3 : Int) := by omega
    replace ml : Hid _ := ml
    replace hbig : Hid _ := hbig
    gi_wp2
    have hK' := (a3m _ (w.heap.size + 1 + 1 + 1) (.slice none 0 0) (.slice none 0 0)).same D _ fK rfl
    refine ⟨by simp, .inl ⟨_, _, rfl, run_takeDeferred hK', ?_⟩⟩
    refine ⟨_, b2q rfl rfl (a2m (a1t fr') (by omega)), none, 0, 0, none, 0, 0, by first | rfl | rw [if_pos hbig.out], by first | exact a4y _ _ | (rw [if_pos hbig.out]; exact a4y _ _), ?_⟩
    exact (a1g _ _ fb (by omega)).trans (belowK_b (w := w) (Nat.le_refl _) _ D _ _ (by omega) hK' rfl rfl)
   ·have hle : (m3 : Int) ≤ 100 := by omega
    replace ml : Hid _ := ml
    replace hbig : Hid _ := hbig
    gi_wp2
    have hK' := (a3m _ (w.heap.size + 1 + 1 + 1) (.slice b3 m3 d3) (.slice b4 m4 d4)).same D _ fK rfl
    refine ⟨by simp, .inl ⟨_, _, rfl, run_takeDeferred hK', ?_⟩⟩
    refine ⟨_, b2q rfl rfl (a2m (a1t fr') (by omega)), b3, m3, d3, b4, m4, d4, by first | rfl | rw [if_neg hbig.out], by first | exact Own2.weak (fo.out.kept (fun c hc => b1n fo.out hc fK rfl (by omega))) (by omega) | (rw [if_neg hbig.out]; exact Own2.weak (fo.out.kept (fun c hc => b1n fo.out hc fK rfl (by omega))) (by omega)), ?_⟩
    exact (a1g _ _ fb (by omega)).trans (belowK_b (w := w) (Nat.le_refl _) _ D _ _ (by omega) hK' rfl rfl)
  ·have eZ : setZ k v ys = part k v ys := by unfold setZ; rw [hmet]; simp
   rw [hmet] at s0
   have ml := b3z hS.own.k
   simp only [keysOf, List.length_map] at ml
   have fo := hS.own
   rw [← eZ] at ml fo
   have fr' := hS.hr
   have fb := hS.bl
   replace fo : Hid _ := fo
   replace hmet : Hid _ := hmet
   clear eZ hS k0 k1 k2 v0 v1 v2
   by_cases hbig : 100 < (setZ k v ys).length
   ·have hgt : (100 : Int) < (m1 : Int) := by omega
    replace ml : Hid _ := ml
    replace hbig : Hid _ := hbig
    gi_wp2
    have hK' := (a3m W (w.heap.size + 1 + 1 + 1) (.slice none 0 0) (.slice none 0 0)).same D _ hK rfl
    refine ⟨by simp, .inl ⟨_, _, rfl, run_takeDeferred hK', ?_⟩⟩
    refine ⟨_, b2q rfl rfl (a2m (a1t fr') (by omega)), none, 0, 0, none, 0, 0, by first | rfl | rw [if_pos hbig.out], by first | exact a4y _ _ | (rw [if_pos hbig.out]; exact a4y _ _), ?_⟩
    exact (a1g _ _ fb (by omega)).trans (belowK_b (w := w) (Nat.le_refl _) _ D _ _ (by omega) hK' rfl rfl)
   ·have hle : (m1 : Int) ≤ 100 := by omega
    replace ml : Hid _ := ml
    replace hbig : Hid _ := hbig
    gi_wp2
    have hK' := (a3m W (w.heap.size + 1 + 1 + 1) (.slice b1 m1 d1) (.slice b2 m2 d2)).same D _ hK rfl
    refine ⟨by simp, .inl ⟨_, _, rfl, run_takeDeferred hK', ?_⟩⟩
    refine ⟨_, b2q rfl rfl (a2m (a1t fr') (by omega)), b1, m1, d1, b2, m2, d2, by first | rfl | rw [if_neg hbig.out], by first | exact Own2.weak (fo.out.kept (fun c hc => b1n fo.out hc hK rfl (by omega))) (by omega) | (rw [if_neg hbig.out]; exact Own2.weak (fo.out.kept (fun c hc => b1n fo.out hc hK rfl (by omega))) (by omega)), ?_⟩
    exact (a1g _ _ fb (by omega)).trans (belowK_b (w := w) (Nat.le_refl _) _ D _ _ (by omega) hK' rfl rfl)
 case stop =>
  rintro D c pre W _ _ h _
  exact h.elim
theorem c8u (ks vs : Value) (xs ys : List Vl) (k v : Vl) (w : World) (hT : Tab w.heap.size w ks vs xs ys) :
  Calls Tryz.prog 117 #[.agg #[ks, vs], k.v, v.v] w fun e w' => ∃ a m c a' m' c', e = .returned (.tuple #[.agg #[.slice a m c, .slice a' m' c'], .int .i64 (setT xs ys k v).2]) ∧
   Own2 w.heap.size w' (.slice a m c) (.slice a' m' c') (keysOf (setT xs ys k v).1) (a0q (setT xs ys k v).1) ∧ Below w.heap.size w w' := by
 have err : ∀ ec : Int, setT xs ys k v = ([], ec) → (Calls Tryz.prog 117 #[.agg #[ks, vs], k.v, v.v] w fun e w' => e = .returned (.tuple #[.agg #[.slice none 0 0, .slice none 0 0], .int .i64 ec]) ∧ Below w.heap.size w w') → Calls Tryz.prog 117 #[.agg #[ks, vs], k.v, v.v] w fun e w' => ∃ a m c a' m' c', e = .returned (.tuple #[.agg #[.slice a m c, .slice a' m' c'], .int .i64 (setT xs ys k v).2]) ∧
   Own2 w.heap.size w' (.slice a m c) (.slice a' m' c') (keysOf (setT xs ys k v).1) (a0q (setT xs ys k v).1) ∧ Below w.heap.size w w' := fun ec he h => by
  rw [he]
  exact h.mono fun e w' ⟨h1, h2⟩ => ⟨none, 0, 0, none, 0, 0, h1, a4y _ _, h2⟩
 cases h : mayT xs ys
 ·exact err 2 (by simp [setT, h]) (d1m ks vs xs ys k v w hT h)
 ·cases h1 : mayB k.k k.n k.s
  ·exact err 2 (by simp [setT, h1]) (d1n ks vs xs ys k v w hT h h1)
  ·cases h2 : mayB v.k v.n v.s
   ·exact err 2 (by simp [setT, h2]) (d1o ks vs xs ys k v w hT h h1 h2)
   ·cases h3 : (k.k == 0)
    ·obtain ⟨hl, hl'⟩ := a2z h
     have := d1q 3 (by omega) ks vs (xs.zip ys) (by rw [List.length_zip]; omega) k v w (by rw [a2j hl, a2y hl]; exact hT) (by rw [a2j hl, a2y hl]; exact h) h1 h2 h3
     have e : setT xs ys k v = (if 100 < (setZ k v (xs.zip ys)).length then [] else setZ k v (xs.zip ys), if 100 < (setZ k v (xs.zip ys)).length then 1 else 0) := by
      have h3' : ¬ k.k = 0 := by simpa using h3
      unfold setT
      rw [if_neg (by simp [h, h1, h2]), if_neg h3']
      split <;> rfl
     rw [e]
     exact callsIn_wide.1 this
    ·have h3' : k.k = 0 := by simpa using h3
     exact err 3 (by unfold setT; rw [if_neg (by simp [h, h1, h2]), if_pos h3']) (d1p ks vs xs ys k v w hT h h1 h2 h3)
end
section
variable [DecidableEq Vl]
theorem b5j (k v : Vl) (p : Vl × Vl) : (swap k v p).1 = p.1 := by unfold swap; split <;> rfl
theorem b9n (h : p.1 ≠ k) : swap k v p = p := by unfold swap; rw [if_neg h]
theorem b9o (h : p.1 = k) : swap k v p = (k, v) := by unfold swap; rw [if_pos h, h]
theorem a9m (k v : Vl) (a b : List (Vl × Vl)) : part k v (a ++ b) = part k v a ++ part k v b := by simp [part]
theorem a9n (k v : Vl) (zs : List (Vl × Vl)) : (keysOf (part k v zs)).Sublist (keysOf zs) := by
 have h1 : (part k v zs).Sublist (zs.map (swap k v)) := List.filter_sublist
 have h2 := h1.map Prod.fst
 have h3 : (zs.map (swap k v)).map Prod.fst = keysOf zs := by
  rw [List.map_map]
  exact List.map_congr_left (fun p _ => b5j k v p)
 rw [h3] at h2
 exact h2
theorem b4a : met k zs = true ↔ k ∈ keysOf zs := by
 simp [met, keysOf]
theorem b5k (h : p ∈ part k v zs) : p.1 ∈ keysOf zs ∧ (p.2 = v ∧ p.2.k ≠ 0 ∨ p ∈ zs) := by
 simp only [part, List.mem_filter, List.mem_map] at h
 obtain ⟨⟨q, hq, rfl⟩, hf⟩ := h
 refine ⟨by rw [b5j]; exact List.mem_map.2 ⟨q, hq, rfl⟩, ?_⟩
 by_cases e : q.1 = k
 ·rw [b9o e] at hf ⊢
  exact .inl ⟨rfl, by simpa [full] using hf⟩
 ·rw [b9n e]; exact .inr hq
theorem a9o (h : (keysOf zs).Nodup) : (keysOf (setZ k v zs)).Nodup := by
 unfold setZ
 by_cases hm : met k zs = true
 ·rw [if_pos hm, List.append_nil]
  exact h.sublist (a9n k v zs)
 ·rw [if_neg hm, keysOf, List.map_append]
  refine List.nodup_append.2 ⟨h.sublist (a9n k v zs), ?_, fun a ha c hc e => ?_⟩
  ·cases hf : full (k, v) <;> simp [hf]
  ·have hck : c = k := by
    obtain ⟨q, hq, rfl⟩ := List.mem_map.1 hc
    have := (List.mem_filter.1 hq).1
    simp at this
    rw [this]
   subst e
   subst hck
   exact hm (b4a.2 ((a9n a v zs).subset ha))
structure Fine (k v : Vl) (zs : List (Vl × Vl)) : Prop where
 keys : ∀ p ∈ zs, stB p.1 = true
 vals : ∀ p ∈ zs, stB p.2 = true
 nodup : (keysOf zs).Nodup
 k : stB k = true
 v : mayB v.k v.n v.s = true
theorem c8v (h : Fine k v zs) (hl : ¬ 100 < (setZ k v zs).length) : mayT (keysOf (setZ k v zs)) (a0q (setZ k v zs)) = true := by
 unfold mayT
 simp only [Bool.and_eq_true, decide_eq_true_eq, List.all_eq_true]
 have mem : ∀ p ∈ setZ k v zs, stB p.1 = true ∧ stB p.2 = true := by
  intro p hp
  have hv : v.k ≠ 0 → stB v = true := fun h0 => by simp [stB, h0, h.v]
  unfold setZ at hp
  rcases List.mem_append.1 hp with hp | hp
  ·obtain ⟨h1, h2⟩ := b5k hp
   obtain ⟨q, hq, e⟩ := List.mem_map.1 h1
   refine ⟨by rw [← e]; exact h.keys q hq, ?_⟩
   rcases h2 with ⟨e2, h0⟩ | h2
   ·rw [e2] at h0 ⊢; exact hv h0
   ·exact h.vals p h2
  ·split at hp
   ·simp at hp
   ·obtain ⟨h1, h2⟩ := List.mem_filter.1 hp
    simp at h1
    subst h1
    exact ⟨h.k, hv (by simpa [full] using h2)⟩
 refine ⟨⟨⟨by simp [keysOf, a0q], by simp [keysOf]; omega⟩, fun x hx => ?_, fun y hy => ?_⟩, a9o h.nodup⟩
 ·obtain ⟨p, hp, rfl⟩ := List.mem_map.1 hx
  exact (mem p hp).1
 ·obtain ⟨p, hp, rfl⟩ := List.mem_map.1 hy
  exact (mem p hp).2
theorem b6v (h : tm[6]?.getD undef = .pointer (some ⟨B, 0, none⟩)) (h' : tm[7]?.getD undef = .int .i64 ec) (hx : W.heap[B]? = some (.cells #[.slice a n c, .slice a' n' c'] 57)) : (results Tryz.f106 tm).run Tryz.prog W = .ok (.tuple #[.agg #[.slice a n c, .slice a' n' c'], .int .i64 ec]) W := by
 have c0 : W.cell? ⟨B, 0, none⟩ = some (.slice a n c) := a0a hx rfl
 have c1 : W.cell? ⟨B, 1, none⟩ = some (.slice a' n' c') := a0a hx rfl
 simp [results, Tryz.results106, go_sem, h, h', c0, c1]
theorem c8w (ks vs : Value) (xs ys : List Vl) (k v : Vl) (w : World) (hT : Tab w.heap.size w ks vs xs ys) (h : mayT xs ys = false) :
  Calls Tryz.prog 106 #[.agg #[ks, vs], k.v, v.v] w fun e w' => e = .returned (.tuple #[.agg #[.slice none 0 0, .slice none 0 0], .int .i64 2]) ∧ Below w.heap.size w w' := by
 obtain ⟨a, c1, rfl, _, _⟩ := hT.keys
 obtain ⟨a', c2, rfl, _, _⟩ := hT.vals
 obtain ⟨W1, hW1⟩ := exq ((((w.alloc (.cells #[.slice a xs.length c1, .slice a' ys.length c2] 57)).alloc (bx k)).alloc (bx v)).alloc a3k)
 obtain ⟨hs1, hb0, ht, hk, hv, hr⟩ := a5b w _ k v hW1
 have hM := b1k h (.slice a xs.length c1) (.slice a' ys.length c2) _ ((hT.below hb0).mono hb0.size)
 rw [← hW1] at hM
 clear h 
 replace hW1 : Hid _ := hW1
 go_enter Tryz.func106, Tryz.ntmps106
 go_wp2_with (go_at_call 22; refine hM.mono ?_; rintro e w1 ⟨rfl, hb1⟩; refine Hid.out ?_)
 rw [hW1.out] at hb1
 clear hM hW1
 replace hb0 := hb0.trans (hb1.mono hb0.size)
 replace ht := a0d hb1 ht
 replace hk := a0d hb1 hk
 replace hv := a0d hb1 hv
 replace hr := a0d hb1 hr
 clear hb1
 obtain ⟨k0, k1, k2, _, _, _⟩ := in3 hk
 obtain ⟨v0, v1, v2, _, _, _⟩ := in3 hv
 have r0 : w1.cell? ⟨w.heap.size + 1 + 1 + 1, 0, none⟩ = some (.slice none 0 0) := a0a hr rfl
 have r1 : w1.cell? ⟨w.heap.size + 1 + 1 + 1, 1, none⟩ = some (.slice none 0 0) := a0a hr rfl
 have f0 : w1.frozen? ⟨w.heap.size + 1 + 1 + 1, 0, none⟩ = false := a0e hr
 have f1 : w1.frozen? ⟨w.heap.size + 1 + 1 + 1, 1, none⟩ = false := a0e hr
 refine Lib.hid ?_
 go_wp2
 exact bodyPost_ret (b6v rfl rfl (a1t hr)) rfl ⟨rfl, a1g _ _ hb0 (by omega)⟩
theorem c8x (ks vs : Value) (xs ys : List Vl) (k v : Vl) (w : World) (hT : Tab w.heap.size w ks vs xs ys) (h : mayT xs ys = true) (h1 : mayB k.k k.n k.s = false) :
  Calls Tryz.prog 106 #[.agg #[ks, vs], k.v, v.v] w fun e w' => e = .returned (.tuple #[.agg #[.slice none 0 0, .slice none 0 0], .int .i64 2]) ∧ Below w.heap.size w w' := by
 obtain ⟨a, c1, rfl, _, _⟩ := hT.keys
 obtain ⟨a', c2, rfl, _, _⟩ := hT.vals
 obtain ⟨W1, hW1⟩ := exq ((((w.alloc (.cells #[.slice a xs.length c1, .slice a' ys.length c2] 57)).alloc (bx k)).alloc (bx v)).alloc a3k)
 obtain ⟨hs1, hb0, ht, hk, hv, hr⟩ := a5b w _ k v hW1
 have hM := a3z h (.slice a xs.length c1) (.slice a' ys.length c2) _ ((hT.below hb0).mono hb0.size)
 rw [← hW1] at hM
 have hV0 := fun u => a3v k u
 rw [h1] at hV0
 clear h h1
 replace hW1 : Hid _ := hW1
 go_enter Tryz.func106, Tryz.ntmps106
 go_wp2_with (go_at_call 22; refine hM.mono ?_; rintro e w1 ⟨rfl, hb1⟩; refine Hid.out ?_)
 rw [hW1.out] at hb1
 clear hM hW1
 replace hb0 := hb0.trans (hb1.mono hb0.size)
 replace ht := a0d hb1 ht
 replace hk := a0d hb1 hk
 replace hv := a0d hb1 hv
 replace hr := a0d hb1 hr
 clear hb1
 obtain ⟨k0, k1, k2, _, _, _⟩ := in3 hk
 obtain ⟨v0, v1, v2, _, _, _⟩ := in3 hv
 have r0 : w1.cell? ⟨w.heap.size + 1 + 1 + 1, 0, none⟩ = some (.slice none 0 0) := a0a hr rfl
 have r1 : w1.cell? ⟨w.heap.size + 1 + 1 + 1, 1, none⟩ = some (.slice none 0 0) := a0a hr rfl
 have f0 : w1.frozen? ⟨w.heap.size + 1 + 1 + 1, 0, none⟩ = false := a0e hr
 have f1 : w1.frozen? ⟨w.heap.size + 1 + 1 + 1, 1, none⟩ = false := a0e hr
 refine Lib.hid ?_
 go_wp2_with (go_at_call_of 47 k; refine (hV0 _).mono ?_; rintro e w2 ⟨rfl, hb1⟩; refine Hid.out ?_)
 clear k0 k1 k2 v0 v1 v2 r0 r1 f0 f1
 replace hb0 := hb0.trans (hb1.mono hb0.size)
 replace ht := a0d hb1 ht
 replace hk := a0d hb1 hk
 replace hv := a0d hb1 hv
 replace hr := a0d hb1 hr
 clear hb1
 obtain ⟨k0, k1, k2, _, _, _⟩ := in3 hk
 obtain ⟨v0, v1, v2, _, _, _⟩ := in3 hv
 have r0 : w2.cell? ⟨w.heap.size + 1 + 1 + 1, 0, none⟩ = some (.slice none 0 0) := a0a hr rfl
 have r1 : w2.cell? ⟨w.heap.size + 1 + 1 + 1, 1, none⟩ = some (.slice none 0 0) := a0a hr rfl
 have f0 : w2.frozen? ⟨w.heap.size + 1 + 1 + 1, 0, none⟩ = false := a0e hr
 have f1 : w2.frozen? ⟨w.heap.size + 1 + 1 + 1, 1, none⟩ = false := a0e hr
 refine Lib.hid ?_
 go_wp2
 exact bodyPost_ret (b6v rfl rfl (a1t hr)) rfl ⟨rfl, a1g _ _ hb0 (by omega)⟩
theorem c8y (ks vs : Value) (xs ys : List Vl) (k v : Vl) (w : World) (hT : Tab w.heap.size w ks vs xs ys) (h : mayT xs ys = true) (h1 : mayB k.k k.n k.s = true) (h2 : mayB v.k v.n v.s = false) :
  Calls Tryz.prog 106 #[.agg #[ks, vs], k.v, v.v] w fun e w' => e = .returned (.tuple #[.agg #[.slice none 0 0, .slice none 0 0], .int .i64 2]) ∧ Below w.heap.size w w' := by
 obtain ⟨a, c1, rfl, _, _⟩ := hT.keys
 obtain ⟨a', c2, rfl, _, _⟩ := hT.vals
 obtain ⟨W1, hW1⟩ := exq ((((w.alloc (.cells #[.slice a xs.length c1, .slice a' ys.length c2] 57)).alloc (bx k)).alloc (bx v)).alloc a3k)
 obtain ⟨hs1, hb0, ht, hk, hv, hr⟩ := a5b w _ k v hW1
 have hM := a3z h (.slice a xs.length c1) (.slice a' ys.length c2) _ ((hT.below hb0).mono hb0.size)
 rw [← hW1] at hM
 have hV0 := fun u => a3v k u
 rw [h1] at hV0
 have hV1 := fun u => a3v v u
 rw [h2] at hV1
 clear h h1 h2
 replace hW1 : Hid _ := hW1
 go_enter Tryz.func106, Tryz.ntmps106
 go_wp2_with (go_at_call 22; refine hM.mono ?_; rintro e w1 ⟨rfl, hb1⟩; refine Hid.out ?_)
 rw [hW1.out] at hb1
 clear hM hW1
 replace hb0 := hb0.trans (hb1.mono hb0.size)
 replace ht := a0d hb1 ht
 replace hk := a0d hb1 hk
 replace hv := a0d hb1 hv
 replace hr := a0d hb1 hr
 clear hb1
 obtain ⟨k0, k1, k2, _, _, _⟩ := in3 hk
 obtain ⟨v0, v1, v2, _, _, _⟩ := in3 hv
 have r0 : w1.cell? ⟨w.heap.size + 1 + 1 + 1, 0, none⟩ = some (.slice none 0 0) := a0a hr rfl
 have r1 : w1.cell? ⟨w.heap.size + 1 + 1 + 1, 1, none⟩ = some (.slice none 0 0) := a0a hr rfl
 have f0 : w1.frozen? ⟨w.heap.size + 1 + 1 + 1, 0, none⟩ = false := a0e hr
 have f1 : w1.frozen? ⟨w.heap.size + 1 + 1 + 1, 1, none⟩ = false := a0e hr
 refine Lib.hid ?_
 go_wp2_with (go_at_call_of 47 k; refine (hV0 _).mono ?_; rintro e w2 ⟨rfl, hb1⟩; refine Hid.out ?_)
 clear k0 k1 k2 v0 v1 v2 r0 r1 f0 f1
 replace hb0 := hb0.trans (hb1.mono hb0.size)
 replace ht := a0d hb1 ht
 replace hk := a0d hb1 hk
 replace hv := a0d hb1 hv
 replace hr := a0d hb1 hr
 clear hb1
 obtain ⟨k0, k1, k2, _, _, _⟩ := in3 hk
 obtain ⟨v0, v1, v2, _, _, _⟩ := in3 hv
 have r0 : w2.cell? ⟨w.heap.size + 1 + 1 + 1, 0, none⟩ = some (.slice none 0 0) := a0a hr rfl
 have r1 : w2.cell? ⟨w.heap.size + 1 + 1 + 1, 1, none⟩ = some (.slice none 0 0) := a0a hr rfl
 have f0 : w2.frozen? ⟨w.heap.size + 1 + 1 + 1, 0, none⟩ = false := a0e hr
 have f1 : w2.frozen? ⟨w.heap.size + 1 + 1 + 1, 1, none⟩ = false := a0e hr
 refine Lib.hid ?_
 go_wp2_with (go_at_call_of 47 v; refine (hV1 _).mono ?_; rintro e w3 ⟨rfl, hb1⟩; refine Hid.out ?_)
 clear k0 k1 k2 v0 v1 v2 r0 r1 f0 f1
 replace hb0 := hb0.trans (hb1.mono hb0.size)
 replace ht := a0d hb1 ht
 replace hk := a0d hb1 hk
 replace hv := a0d hb1 hv
 replace hr := a0d hb1 hr
 clear hb1
 obtain ⟨k0, k1, k2, _, _, _⟩ := in3 hk
 obtain ⟨v0, v1, v2, _, _, _⟩ := in3 hv
 have r0 : w3.cell? ⟨w.heap.size + 1 + 1 + 1, 0, none⟩ = some (.slice none 0 0) := a0a hr rfl
 have r1 : w3.cell? ⟨w.heap.size + 1 + 1 + 1, 1, none⟩ = some (.slice none 0 0) := a0a hr rfl
 have f0 : w3.frozen? ⟨w.heap.size + 1 + 1 + 1, 0, none⟩ = false := a0e hr
 have f1 : w3.frozen? ⟨w.heap.size + 1 + 1 + 1, 1, none⟩ = false := a0e hr
 refine Lib.hid ?_
 go_wp2
 exact bodyPost_ret (b6v rfl rfl (a1t hr)) rfl ⟨rfl, a1g _ _ hb0 (by omega)⟩
theorem c8z (ks vs : Value) (xs ys : List Vl) (k v : Vl) (w : World) (hT : Tab w.heap.size w ks vs xs ys) (h : mayT xs ys = true) (h1 : mayB k.k k.n k.s = true) (h2 : mayB v.k v.n v.s = true) (h3 : (k.k == 0) = true) :
  Calls Tryz.prog 106 #[.agg #[ks, vs], k.v, v.v] w fun e w' => e = .returned (.tuple #[.agg #[.slice none 0 0, .slice none 0 0], .int .i64 3]) ∧ Below w.heap.size w w' := by
 obtain ⟨a, c1, rfl, _, _⟩ := hT.keys
 obtain ⟨a', c2, rfl, _, _⟩ := hT.vals
 obtain ⟨W1, hW1⟩ := exq ((((w.alloc (.cells #[.slice a xs.length c1, .slice a' ys.length c2] 57)).alloc (bx k)).alloc (bx v)).alloc a3k)
 obtain ⟨hs1, hb0, ht, hk, hv, hr⟩ := a5b w _ k v hW1
 have hM := a3z h (.slice a xs.length c1) (.slice a' ys.length c2) _ ((hT.below hb0).mono hb0.size)
 rw [← hW1] at hM
 have hV0 := fun u => a3v k u
 rw [h1] at hV0
 have hV1 := fun u => a3v v u
 rw [h2] at hV1
 clear h h1 h2
 replace hW1 : Hid _ := hW1
 go_enter Tryz.func106, Tryz.ntmps106
 go_wp2_with (go_at_call 22; refine hM.mono ?_; rintro e w1 ⟨rfl, hb1⟩; refine Hid.out ?_)
 rw [hW1.out] at hb1
 clear hM hW1
 replace hb0 := hb0.trans (hb1.mono hb0.size)
 replace ht := a0d hb1 ht
 replace hk := a0d hb1 hk
 replace hv := a0d hb1 hv
 replace hr := a0d hb1 hr
 clear hb1
 obtain ⟨k0, k1, k2, _, _, _⟩ := in3 hk
 obtain ⟨v0, v1, v2, _, _, _⟩ := in3 hv
 have r0 : w1.cell? ⟨w.heap.size + 1 + 1 + 1, 0, none⟩ = some (.slice none 0 0) := a0a hr rfl
 have r1 : w1.cell? ⟨w.heap.size + 1 + 1 + 1, 1, none⟩ = some (.slice none 0 0) := a0a hr rfl
 have f0 : w1.frozen? ⟨w.heap.size + 1 + 1 + 1, 0, none⟩ = false := a0e hr
 have f1 : w1.frozen? ⟨w.heap.size + 1 + 1 + 1, 1, none⟩ = false := a0e hr
 refine Lib.hid ?_
 go_wp2_with (go_at_call_of 47 k; refine (hV0 _).mono ?_; rintro e w2 ⟨rfl, hb1⟩; refine Hid.out ?_)
 clear k0 k1 k2 v0 v1 v2 r0 r1 f0 f1
 replace hb0 := hb0.trans (hb1.mono hb0.size)
 replace ht := a0d hb1 ht
 replace hk := a0d hb1 hk
 replace hv := a0d hb1 hv
 replace hr := a0d hb1 hr
 clear hb1
 obtain ⟨k0, k1, k2, _, _, _⟩ := in3 hk
 obtain ⟨v0, v1, v2, _, _, _⟩ := in3 hv
 have r0 : w2.cell? ⟨w.heap.size + 1 + 1 + 1, 0, none⟩ = some (.slice none 0 0) := a0a hr rfl
 have r1 : w2.cell? ⟨w.heap.size + 1 + 1 + 1, 1, none⟩ = some (.slice none 0 0) := a0a hr rfl
 have f0 : w2.frozen? ⟨w.heap.size + 1 + 1 + 1, 0, none⟩ = false := a0e hr
 have f1 : w2.frozen? ⟨w.heap.size + 1 + 1 + 1, 1, none⟩ = false := a0e hr
 refine Lib.hid ?_
 go_wp2_with (go_at_call_of 47 v; refine (hV1 _).mono ?_; rintro e w3 ⟨rfl, hb1⟩; refine Hid.out ?_)
 clear k0 k1 k2 v0 v1 v2 r0 r1 f0 f1
 replace hb0 := hb0.trans (hb1.mono hb0.size)
 replace ht := a0d hb1 ht
 replace hk := a0d hb1 hk
 replace hv := a0d hb1 hv
 replace hr := a0d hb1 hr
 clear hb1
 obtain ⟨k0, k1, k2, _, _, _⟩ := in3 hk
 obtain ⟨v0, v1, v2, _, _, _⟩ := in3 hv
 have r0 : w3.cell? ⟨w.heap.size + 1 + 1 + 1, 0, none⟩ = some (.slice none 0 0) := a0a hr rfl
 have r1 : w3.cell? ⟨w.heap.size + 1 + 1 + 1, 1, none⟩ = some (.slice none 0 0) := a0a hr rfl
 have f0 : w3.frozen? ⟨w.heap.size + 1 + 1 + 1, 0, none⟩ = false := a0e hr
 have f1 : w3.frozen? ⟨w.heap.size + 1 + 1 + 1, 1, none⟩ = false := a0e hr
 refine Lib.hid ?_
 go_wp2
 exact bodyPost_ret (b6v rfl rfl (a1t hr)) rfl ⟨rfl, a1g _ _ hb0 (by omega)⟩
def a6b (k v : Vl) (zs : List (Vl × Vl)) (fi j : Nat) : List (Vl × Vl) := (if j = fi then [(k, v)].filter full else []) ++ (if j = fi then [] else (zs[j]?).toList)
def a2d (k v : Vl) (zs : List (Vl × Vl)) (fi : Nat) : Nat → List (Vl × Vl)
 | 0 => []
 | i + 1 => a2d k v zs fi i ++ a6b k v zs fi i
theorem b4b (hf : ∀ p ∈ zs, full p = true) (hk : ∀ p ∈ zs, p.1 ≠ k) : part k v zs = zs := by
 unfold part
 have : zs.map (swap k v) = zs := by
  conv => rhs; rw [← List.map_id zs]
  exact List.map_congr_left (fun p hp => b9n (hk p hp))
 rw [this]
 exact List.filter_eq_self.2 hf
theorem b6w {i : Nat} : zs.take i ++ (zs[i]?).toList = zs.take (i + 1) := by rw [List.take_add_one]
theorem a6c {k v : Vl} {zs : List (Vl × Vl)} {fi : Nat} : ∀ {i : Nat}, i ≤ fi → a2d k v zs fi i = zs.take i
 | 0, _ => by simp [a2d]
 | i + 1, h => by
  rw [a2d, a6c (by omega), a6b, if_neg (by omega), if_neg (by omega), List.nil_append, b6w]
theorem a8s {k v : Vl} {zs : List (Vl × Vl)} {fi : Nat} : ∀ {d : Nat}, a2d k v zs fi (fi + 1 + d) = zs.take fi ++ ([(k, v)].filter full ++ (zs.drop (fi + 1)).take d)
 | 0 => by
  show a2d k v zs fi fi ++ a6b k v zs fi fi = _
  rw [a6c (Nat.le_refl _), a6b, if_pos rfl, if_pos rfl]
  simp
 | d + 1 => by
  show a2d k v zs fi (fi + 1 + d) ++ a6b k v zs fi (fi + 1 + d) = _
  rw [a8s, a6b, if_neg (by omega), if_neg (by omega), List.nil_append, List.append_assoc, List.append_assoc]
  congr 2
  rw [List.take_add_one, List.getElem?_drop]
theorem b9p (hf : ∀ p ∈ zs, full p = true) (hn : (keysOf zs).Nodup) : a2d k v zs (findI (keysOf zs) k) (zs.length + 1) = setZ k v zs := by
 have hle := a4x (keysOf zs) k
 have hbe := fun j (hj : j < findI (keysOf zs) k) => a3e hj
 have hge := fun (h : findI (keysOf zs) k < (keysOf zs).length) => a7w h
 have hlen : (keysOf zs).length = zs.length := by simp [keysOf]
 rw [hlen] at hle hge
 generalize findI (keysOf zs) k = fi at *
 by_cases h : fi < zs.length
 ·obtain ⟨p, hp⟩ : ∃ p, zs[fi]? = some p := ⟨zs[fi], by simp [h]⟩
  have hpk : p.1 = k := by
   have := hge h
   simp only [keysOf, List.getElem?_map, hp, Option.map_some, Option.some.injEq] at this
   exact this
  have hs : zs = zs.take fi ++ p :: zs.drop (fi + 1) := by
   obtain ⟨hm, e⟩ := List.getElem?_eq_some_iff.1 hp
   rw [← e, List.getElem_cons_drop, List.take_append_drop]
  have hmet : met k zs = true := b4a.2 (List.mem_map.2 ⟨p, List.mem_of_getElem? hp, hpk⟩)
  obtain ⟨d, hd⟩ : ∃ d, zs.length + 1 = fi + 1 + d := ⟨zs.length - fi, by omega⟩
  have hdl : (zs.drop (fi + 1)).length ≤ d := by rw [List.length_drop]; omega
  rw [hd, a8s, List.take_of_length_le hdl]
  unfold setZ
  rw [if_pos hmet, List.append_nil]
  have k1 : ∀ q ∈ zs.take fi, q.1 ≠ k := by
   intro q hq e
   obtain ⟨j, hj, e2⟩ := List.mem_take_iff_getElem.1 hq
   refine hbe j (by omega) ?_
   simp only [keysOf, List.getElem?_map]
   rw [List.getElem?_eq_getElem (by omega), e2, ← e]
   rfl
  have k2 : ∀ q ∈ zs.drop (fi + 1), q.1 ≠ k := by
   intro q hq e
   rw [hs, keysOf, List.map_append, List.map_cons] at hn
   have := (List.nodup_cons.1 (List.nodup_append.1 hn).2.1).1
   exact this (by rw [hpk, ← e]; exact List.mem_map.2 ⟨q, hq, rfl⟩)
  have e1 := b4b (v := v) (fun q hq => hf q (List.mem_of_mem_take hq)) k1
  have e2 := b4b (v := v) (fun q hq => hf q (List.mem_of_mem_drop hq)) k2
  have e3 : part k v [p] = [(k, v)].filter full := by unfold part; rw [List.map_singleton, b9o hpk]
  have e4 : part k v (zs.take fi ++ ([p] ++ zs.drop (fi + 1))) = zs.take fi ++ ([(k, v)].filter full ++ zs.drop (fi + 1)) := by rw [a9m, a9m, e1, e2, e3]
  rw [← e4]
  exact congrArg (part k v) hs.symm
 ·obtain rfl : fi = zs.length := by omega
  rw [a2d, a6c (Nat.le_refl _), a6b, if_pos rfl, if_pos rfl, List.append_nil, List.take_length]
  have hk : ∀ q ∈ zs, q.1 ≠ k := by
   intro q hq e
   obtain ⟨j, hj, e2⟩ := List.mem_iff_getElem.1 hq
   refine hbe j hj ?_
   simp only [keysOf, List.getElem?_map]
   rw [List.getElem?_eq_getElem hj, e2, ← e]
   rfl
  have hmet : ¬ met k zs = true := fun hm => by
   obtain ⟨q, hq, e⟩ := List.mem_map.1 (b4a.1 hm)
   exact hk q hq e
  unfold setZ
  rw [if_neg hmet, b4b hf hk]
end
end Go.Proofs.YthpgbienakcbeaaGreatDoor
