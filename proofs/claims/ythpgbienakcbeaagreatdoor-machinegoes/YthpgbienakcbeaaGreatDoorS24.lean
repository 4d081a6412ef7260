/- The document's own Set: where nothing is wrong. -/
import Derived.Test.YthpgbienakcbeaaGreatDoorS15
import Derived.Deep.RegionLaw
namespace Go.Proofs.YthpgbienakcbeaaGreatDoor
open Go.RowKit Go.Shelf Go
set_option maxRecDepth 100000
set_option maxHeartbeats 8000000
set_option linter.all false
variable {k v x : Vl} {w W W1 w2 : World} {B n d n' d' g cap H : Nat} {ks vs : Value} {xs ys : List Vl} {b b' : Option Addr} {row : Option Nat}
section
variable [DecidableEq Vl]
theorem c0a {zs : List (Vl × Vl)} {fi j : Nat} : (a6b k v zs fi j).length ≤ 1 := by
 unfold a6b
 by_cases h : j = fi
 ·rw [if_pos h, if_pos h, List.append_nil]
  exact List.length_filter_le _ _
 ·rw [if_neg h, if_neg h, List.nil_append]
  cases zs[j]? <;> simp
theorem b2v {k v : Vl} {zs : List (Vl × Vl)} {fi : Nat} : ∀ {i : Nat}, (a2d k v zs fi i).length ≤ i
 | 0 => by simp [a2d]
 | i + 1 => by
  have h1 := b2v (k := k) (v := v) (zs := zs) (fi := fi) (i := i)
  have h2 := c0a (k := k) (v := v) (zs := zs) (fi := fi) (j := i)
  rw [a2d, List.length_append]
  omega
theorem b2w (P : List (Vl × Vl)) (x y : Vl) : keysOf (P ++ [(x, y)]) = keysOf P ++ [x] := by simp [keysOf]
theorem b2x (P : List (Vl × Vl)) (x y : Vl) : a0q (P ++ [(x, y)]) = a0q P ++ [y] := by simp [a0q]
structure RI (w : World) (B : Nat) (ks vs : Value) (k v : Vl) (xs ys : List Vl) (b : Option Addr) (n d : Nat) (b' : Option Addr) (n' d' : Nat) (W : World) : Prop where
 own : Own2 (B + 1) W (.slice b n d) (.slice b' n' d') xs ys
 u : W.heap[B]? = some (.cells #[.slice b n d, .slice b' n' d'] 57)
 ht : W.heap[w.heap.size]? = some (.cells #[ks, vs] 57)
 hk : W.heap[w.heap.size + 1]? = some (bx k)
 hv : W.heap[w.heap.size + 1 + 1]? = some (bx v)
 hr : W.heap[w.heap.size + 1 + 1 + 1]? = some a3k
 sz : B + 1 ≤ W.heap.size
 bl : Below w.heap.size w W
theorem RI.far (h : RI w B ks vs k v xs ys b n d b' n' d' W) (hb1 : Below W.heap.size W W1) (hg : W1.grownBy w2 row) (hrow : row = (Value.slice b n d).ownBlock ∨ row = (Value.slice b' n' d').ownBlock) {C : Nat} (hC : C < B + 1) : w2.heap[C]? = W.heap[C]? := by
 have hs := h.sz
 have hs1 := hb1.size
 refine (hg.block C (by omega) (fun e => ?_)).trans (hb1.block C (by omega))
 rcases hrow with rfl | rfl
 ·have := (a0z h.own.k e.symm).1; omega
 ·have := (a0z h.own.v e.symm).1; omega
theorem RI.below (h : RI w B ks vs k v xs ys b n d b' n' d' W) (hB : w.heap.size + 4 ≤ B) (hb1 : Below W.heap.size W W1) (hg : W1.grownBy w2 row) (hrow : row = (Value.slice b n d).ownBlock ∨ row = (Value.slice b' n' d').ownBlock) : Below w.heap.size w w2 :=
 h.bl.trans ⟨hg.os.trans hb1.os, hg.tape.trans hb1.tape, hg.output.trans hb1.output, Nat.le_trans hb1.size hg.size, fun C hC => h.far hb1 hg hrow (by omega)⟩
theorem b5q (h : RI w B ks vs k v xs ys b n d b' n' d' W) (hB : w.heap.size + 4 ≤ B) (hb1 : Below W.heap.size W W1) (hown : w2.ownsRow (B + 1) 30 3 (.slice (some ⟨g, 0, none⟩) (xs.length + 1) cap) (xs.length + 1) (flat xs ++ trio x)) (hg : W1.grownBy w2 (Value.slice b n d).ownBlock) (hat : (Value.slice b n d).ownBlock = some g ∨ g = H) (hH : W.heap.size ≤ H) :
  RI w B ks vs k v (xs ++ [x]) ys (some ⟨g, 0, none⟩) (xs.length + 1) cap b' n' d' (w2.setCell ⟨B, 0, none⟩ (.slice (some ⟨g, 0, none⟩) (xs.length + 1) cap)) := by
 have far := fun {C : Nat} (hC : C < B + 1) => h.far hb1 hg (.inl rfl) hC
 have gB := (a0z hown rfl).1
 have hs := h.sz
 have hv1 : ∀ c, (Value.slice b' n' d').ownBlock = some c → (w2.setCell ⟨B, 0, none⟩ (.slice (some ⟨g, 0, none⟩) (xs.length + 1) cap)).heap[c]? = W.heap[c]? := fun c e => by
  have g2 := a0z h.own.v e
  refine ((a0f _ _ (by omega)).trans (hg.block c (Nat.lt_of_lt_of_le g2.2.1 hb1.size) (fun e' => h.own.ne c e'.symm e))).trans (hb1.block c g2.2.1)
 refine ⟨⟨?_, a3a h.own.v hv1, fun c e e' => ?_⟩, a0k _ ((far (by omega)).trans h.u), (a0f _ _ (by omega)).trans ((far (by omega)).trans h.ht), (a0f _ _ (by omega)).trans ((far (by omega)).trans h.hk), (a0f _ _ (by omega)).trans ((far (by omega)).trans h.hv), (a0f _ _ (by omega)).trans ((far (by omega)).trans h.hr), Nat.le_trans hs (Nat.le_trans hb1.size (Nat.le_trans hg.size (KeepsOthers.setCell _ _ _).size)), (h.below hB hb1 hg (.inl rfl)).setCell (p := ⟨B, 0, none⟩) (by show w.heap.size ≤ B; omega) _⟩
 ·rw [a6a, List.length_append]
  exact a3a hown (fun c e => a0f _ _ (by have := (a0z hown e).1; omega))
 ·obtain rfl : g = c := by simpa [Value.ownBlock] using e
  have g2 := a0z h.own.v e'
  rcases hat with h1 | h1
  ·exact h.own.ne g h1 e'
  ·omega
theorem b5r (h : RI w B ks vs k v xs ys b n d b' n' d' W) (hB : w.heap.size + 4 ≤ B) (hb1 : Below W.heap.size W W1) (hown : w2.ownsRow (B + 1) 30 3 (.slice (some ⟨g, 0, none⟩) (ys.length + 1) cap) (ys.length + 1) (flat ys ++ trio x)) (hg : W1.grownBy w2 (Value.slice b' n' d').ownBlock) (hat : (Value.slice b' n' d').ownBlock = some g ∨ g = H) (hH : W.heap.size ≤ H) :
  RI w B ks vs k v xs (ys ++ [x]) b n d (some ⟨g, 0, none⟩) (ys.length + 1) cap (w2.setCell ⟨B, 1, none⟩ (.slice (some ⟨g, 0, none⟩) (ys.length + 1) cap)) := by
 have far := fun {C : Nat} (hC : C < B + 1) => h.far hb1 hg (.inr rfl) hC
 have gB := (a0z hown rfl).1
 have hs := h.sz
 have hv1 : ∀ c, (Value.slice b n d).ownBlock = some c → (w2.setCell ⟨B, 1, none⟩ (.slice (some ⟨g, 0, none⟩) (ys.length + 1) cap)).heap[c]? = W.heap[c]? := fun c e => by
  have g2 := a0z h.own.k e
  refine ((a0f _ _ (by omega)).trans (hg.block c (Nat.lt_of_lt_of_le g2.2.1 hb1.size) (fun e' => h.own.ne c e e'.symm))).trans (hb1.block c g2.2.1)
 refine ⟨⟨a3a h.own.k hv1, ?_, fun c e e' => ?_⟩, a0k _ ((far (by omega)).trans h.u), (a0f _ _ (by omega)).trans ((far (by omega)).trans h.ht), (a0f _ _ (by omega)).trans ((far (by omega)).trans h.hk), (a0f _ _ (by omega)).trans ((far (by omega)).trans h.hv), (a0f _ _ (by omega)).trans ((far (by omega)).trans h.hr), Nat.le_trans hs (Nat.le_trans hb1.size (Nat.le_trans hg.size (KeepsOthers.setCell _ _ _).size)), (h.below hB hb1 hg (.inr rfl)).setCell (p := ⟨B, 1, none⟩) (by show w.heap.size ≤ B; omega) _⟩
 ·rw [a6a, List.length_append]
  exact a3a hown (fun c e => a0f _ _ (by have := (a0z hown e).1; omega))
 ·obtain rfl : g = c := by simpa [Value.ownBlock] using e'
  have g2 := a0z h.own.k e
  rcases hat with h1 | h1
  ·exact h.own.ne g e h1
  ·omega
theorem c9f (ks vs : Value) (zs : List (Vl × Vl)) (hlen : zs.length ≤ 100) (k v : Vl) (w : World) (hT : Tab w.heap.size w ks vs (keysOf zs) (a0q zs)) (h : mayT (keysOf zs) (a0q zs) = true) (h1 : mayB k.k k.n k.s = true) (h2 : mayB v.k v.n v.s = true) (h3 : (k.k == 0) = false) (hfu : ∀ p ∈ zs, full p = true) (hnd : (keysOf zs).Nodup) :
  Calls Tryz.prog 106 #[.agg #[ks, vs], k.v, v.v] w fun e w' => ∃ a m c a' m' c', e = .returned (.tuple #[.agg #[.slice a m c, .slice a' m' c'], .int .i64 (if 100 < (setZ k v zs).length then 1 else 0)]) ∧
   Own2 w.heap.size w' (.slice a m c) (.slice a' m' c') (keysOf (if 100 < (setZ k v zs).length then [] else setZ k v zs)) (a0q (if 100 < (setZ k v zs).length then [] else setZ k v zs)) ∧ Below w.heap.size w w' := by
 obtain ⟨i0, hi0, hz0, hz1, hz2⟩ := info_parts b0p
 obtain ⟨a, c1, hks⟩ := hT.keys.slice
 obtain ⟨a', c2, hvs⟩ := hT.vals.slice
 simp only [keysOf, a0q, List.length_map] at hks hvs
 subst hks hvs
 obtain ⟨W1, hW1⟩ := exq ((((w.alloc (.cells #[.slice a zs.length c1, .slice a' zs.length c2] 57)).alloc (bx k)).alloc (bx v)).alloc a3k)
 obtain ⟨hs1, hb0, ht, hk, hv, hr⟩ := a5b w _ k v hW1
 have hM := a3z h (.slice a zs.length c1) (.slice a' zs.length c2) _ ((hT.below hb0).mono hb0.size)
 rw [← hW1] at hM
 have hV0 := fun u => a3v k u
 rw [h1] at hV0
 have hV1 := fun u => a3v v u
 rw [h2] at hV1
 clear h h1 h2
 replace hW1 : Hid _ := hW1
 go_enter Tryz.func106, Tryz.ntmps106
 go_wp2_with (go_at_call 22; refine hM.mono ?_; rintro e w1 ⟨rfl, hb1⟩; refine Hid.out ?_)
 rw [hW1.out] at hb1
 clear hM hW1
 replace hb0 := hb0.trans (hb1.mono hb0.size)
 replace ht := a0d hb1 ht
 replace hk := a0d hb1 hk
 replace hv := a0d hb1 hv
 replace hr := a0d hb1 hr
 clear hb1
 obtain ⟨k0, k1, k2, _, _, _⟩ := in3 hk
 obtain ⟨v0, v1, v2, _, _, _⟩ := in3 hv
 have r0 : w1.cell? ⟨w.heap.size + 1 + 1 + 1, 0, none⟩ = some (.slice none 0 0) := a0a hr rfl
 have r1 : w1.cell? ⟨w.heap.size + 1 + 1 + 1, 1, none⟩ = some (.slice none 0 0) := a0a hr rfl
 have f0 : w1.frozen? ⟨w.heap.size + 1 + 1 + 1, 0, none⟩ = false := a0e hr
 have f1 : w1.frozen? ⟨w.heap.size + 1 + 1 + 1, 1, none⟩ = false := a0e hr
 refine Lib.hid ?_
 go_wp2_with (go_at_call_of 47 k; refine (hV0 _).mono ?_; rintro e w2 ⟨rfl, hb1⟩; refine Hid.out ?_)
 clear k0 k1 k2 v0 v1 v2 r0 r1 f0 f1
 replace hb0 := hb0.trans (hb1.mono hb0.size)
 replace ht := a0d hb1 ht
 replace hk := a0d hb1 hk
 replace hv := a0d hb1 hv
 replace hr := a0d hb1 hr
 clear hb1
 obtain ⟨k0, k1, k2, _, _, _⟩ := in3 hk
 obtain ⟨v0, v1, v2, _, _, _⟩ := in3 hv
 have r0 : w2.cell? ⟨w.heap.size + 1 + 1 + 1, 0, none⟩ = some (.slice none 0 0) := a0a hr rfl
 have r1 : w2.cell? ⟨w.heap.size + 1 + 1 + 1, 1, none⟩ = some (.slice none 0 0) := a0a hr rfl
 have f0 : w2.frozen? ⟨w.heap.size + 1 + 1 + 1, 0, none⟩ = false := a0e hr
 have f1 : w2.frozen? ⟨w.heap.size + 1 + 1 + 1, 1, none⟩ = false := a0e hr
 refine Lib.hid ?_
 go_wp2_with (go_at_call_of 47 v; refine (hV1 _).mono ?_; rintro e w3 ⟨rfl, hb1⟩; refine Hid.out ?_)
 clear k0 k1 k2 v0 v1 v2 r0 r1 f0 f1
 replace hb0 := hb0.trans (hb1.mono hb0.size)
 replace ht := a0d hb1 ht
 replace hk := a0d hb1 hk
 replace hv := a0d hb1 hv
 replace hr := a0d hb1 hr
 clear hb1
 obtain ⟨k0, k1, k2, _, _, _⟩ := in3 hk
 obtain ⟨v0, v1, v2, _, _, _⟩ := in3 hv
 have r0 : w3.cell? ⟨w.heap.size + 1 + 1 + 1, 0, none⟩ = some (.slice none 0 0) := a0a hr rfl
 have r1 : w3.cell? ⟨w.heap.size + 1 + 1 + 1, 1, none⟩ = some (.slice none 0 0) := a0a hr rfl
 have f0 : w3.frozen? ⟨w.heap.size + 1 + 1 + 1, 0, none⟩ = false := a0e hr
 have f1 : w3.frozen? ⟨w.heap.size + 1 + 1 + 1, 1, none⟩ = false := a0e hr
 have hF := fun u (hb : Below w.heap.size w u) => a5n (.slice a zs.length c1) (.slice a' zs.length c2) _ _ k u ((hT.below hb).mono hb.size)
 have x0 : w3.cell? ⟨w.heap.size, 0, none⟩ = some (.slice a zs.length c1) := a0a ht rfl
 have x1 : w3.cell? ⟨w.heap.size, 1, none⟩ = some (.slice a' zs.length c2) := a0a ht rfl
 refine Lib.hid ?_
 go_wp2_with (go_at_call 48; refine (hF _ hb0).mono ?_; rintro e w4 ⟨rfl, hb1⟩; refine Hid.out ?_)
 replace hb0 := hb0.trans (hb1.mono hb0.size)
 replace ht := a0d hb1 ht
 replace hk := a0d hb1 hk
 replace hv := a0d hb1 hv
 replace hr := a0d hb1 hr
 have hz4 : w.heap.size + 4 ≤ w4.heap.size := by have := (Array.getElem?_eq_some_iff.1 hr).1; omega
 clear hb1 k0 k1 k2 v0 v1 v2 r0 r1 f0 f1 x0 x1 hF hV0 hV1 hs1
 obtain ⟨fi, hfi⟩ := exq (findI (keysOf zs) k)
 have hfl : fi ≤ zs.length := by have := a4x (keysOf zs) k; rw [hfi] at this; simpa [keysOf] using this
 have hb5 : Below w.heap.size w (w4.alloc a3k) := hb0.alloc (by omega) _
 have S0 : RI w w4.heap.size (.slice a zs.length c1) (.slice a' zs.length c2) k v [] [] none 0 0 none 0 0 (w4.alloc a3k) :=
  ⟨⟨World.ownsRow_nil _ _ _ _, World.ownsRow_nil _ _ _ _, fun b e => by simp [Value.ownBlock] at e⟩, World.alloc_heap_new _ _, a0g _ ht, a0g _ hk, a0g _ hv, a0g _ hr, by simp, hb5⟩
 clear ht hk hv hr hb0 hb5
 rw [hfi]
 replace hT : Hid _ := hT
 replace hfi : Hid _ := hfi
 refine Lib.hid ?_
 go_wp2
 go_loopw [10] (fun i wr => ∃ m : Nat, m ≤ zs.length + 1 ∧ i = .int .i64 m ∧ ∃ b n d b' n' d', RI w w4.heap.size (.slice a zs.length c1) (.slice a' zs.length c2) k v (keysOf (a2d k v zs fi m)) (a0q (a2d k v zs fi m)) b n d b' n' d' wr) (fun i _ => zs.length + 1 - (intOf i).toNat)
 case atStart => exact ⟨0, Nat.zero_le _, rfl, _, _, _, _, _, _, S0⟩
 case round =>
  clear S0
  obtain ⟨m, hm, rfl, b, n, d, b', n', d', hS⟩ := hrel
  have hSl := b2v (k := k) (v := v) (zs := zs) (fi := fi) (i := m)
  have hkl : (keysOf (a2d k v zs fi m)).length ≤ 101 := by simp [keysOf]; omega
  have hvl : (a0q (a2d k v zs fi m)).length ≤ 101 := by simp [a0q]; omega
  clear hSl
  have t0 : wr.cell? ⟨w.heap.size, 0, none⟩ = some (.slice a zs.length c1) := a0a hS.ht rfl
  have t1 : wr.cell? ⟨w.heap.size, 1, none⟩ = some (.slice a' zs.length c2) := a0a hS.ht rfl
  have u0 : wr.cell? ⟨w4.heap.size, 0, none⟩ = some (.slice b n d) := a0a hS.u rfl
  have u1 : wr.cell? ⟨w4.heap.size, 1, none⟩ = some (.slice b' n' d') := a0a hS.u rfl
  obtain ⟨k0, k1, k2, _, _, _⟩ := in3 hS.hk
  obtain ⟨v0, v1, v2, _, _, _⟩ := in3 hS.hv
  have nn0 : ¬ w.heap.size = w4.heap.size := by omega
  have nn1 : ¬ w.heap.size + 1 = w4.heap.size := by omega
  have nn2 : ¬ w.heap.size + 1 + 1 = w4.heap.size := by omega
  by_cases hend : m = zs.length + 1
  ·subst hend
   have ml := b3z hS.own.k
   have fo := hS.own
   have hE : a2d k v zs fi (zs.length + 1) = setZ k v zs := by rw [← hfi.out]; exact b9p hfu hnd
   rw [hE] at ml fo
   simp only [keysOf, List.length_map] at ml
   have r0 : wr.cell? ⟨w.heap.size + 1 + 1 + 1, 0, none⟩ = some (.slice none 0 0) := a0a hS.hr rfl
   have r1 : wr.cell? ⟨w.heap.size + 1 + 1 + 1, 1, none⟩ = some (.slice none 0 0) := a0a hS.hr rfl
   have g0 : wr.frozen? ⟨w.heap.size + 1 + 1 + 1, 0, none⟩ = false := a0e hS.hr
   have g1 : wr.frozen? ⟨w.heap.size + 1 + 1 + 1, 1, none⟩ = false := a0e hS.hr
   have fr' := hS.hr
   have fb := hS.bl
   replace fo : Hid _ := fo
   clear hS hE k0 k1 k2 v0 v1 v2
   by_cases hbig : 100 < (setZ k v zs).length
   ·have hgt : (100 : Int) < (n : Int) := by omega
    replace ml : Hid _ := ml
    replace hbig : Hid _ := hbig
    go_wp2
    exact bodyPost_ret (b6v rfl rfl (a1t fr')) rfl ⟨none, 0, 0, none, 0, 0, by first | rfl | rw [if_pos hbig.out], by first | exact a4y _ _ | (rw [if_pos hbig.out]; exact a4y _ _), a1g _ _ fb (by omega)⟩
   ·have hle : (n : Int) ≤ 100 := by omega
    replace ml : Hid _ := ml
    replace hbig : Hid _ := hbig
    go_wp2
    exact bodyPost_ret (b6v rfl rfl (a1t fr')) rfl ⟨b, n, d, b', n', d', by first | rfl | rw [if_neg hbig.out], by (try rw [if_neg hbig.out]); exact ((fo.out.kept (fun c hc => a2h _ _ _ (by have := hc.elim (fun e => (a0z fo.out.k e).1) (fun e => (a0z fo.out.v e).1); omega)))).weak (by omega), a1g _ _ fb (by omega)⟩
  by_cases hat : m = fi
  ·subst hat
   cases hv0 : (v.k == 0)
   ·have hp : a6b k v zs m m = [(k, v)] := by unfold a6b; simp [full, hv0]
    have hE : a2d k v zs m (m + 1) = a2d k v zs m m ++ [(k, v)] := by rw [a2d, hp]
    have hn1 : (keysOf (a2d k v zs m m)).length + 1 ≤ maxLen := by unfold maxLen; omega
    have hb1 : ((keysOf (a2d k v zs m m)).length + 1) * 32 ≤ 140737488355328 := by omega
    have hn2 : (a0q (a2d k v zs m m)).length + 1 ≤ maxLen := by unfold maxLen; omega
    have hb2 : ((a0q (a2d k v zs m m)).length + 1) * 32 ≤ 140737488355328 := by omega
    have hsz := hS.sz
    obtain ⟨X, hX⟩ := exq (keysOf (a2d k v zs m m))
    obtain ⟨Y, hY⟩ := exq (a0q (a2d k v zs m m))
    have hE1 : keysOf (a2d k v zs m (m + 1)) = X ++ [k] := by rw [hE, b2w, hX]
    have hE2 : a0q (a2d k v zs m (m + 1)) = Y ++ [v] := by rw [hE, b2x, hY]
    rw [hX] at hn1 hb1
    rw [hY] at hn2 hb2
    rw [hX, hY] at hS
    clear hkl hvl hX hY hE hp
    go_wp2_with (first
     | (at_builtin; refine wpList_append_lies _ (by rfl) _ _ _ (by rfl) (w4.heap.size + 1) 30 i0 _ 3 32 Tryz.underlying48 hi0 hz0 hz1 hz2 rfl (by omega) (.slice b n d) X.length (flat X) (by rfl) (a1s hS.own (bx k)).k ⟨wr.heap.size, 0, none⟩ 1 1 (trio k) (by rfl) (by rfl) (news (W := wr.alloc (bx k)) (World.alloc_heap_new wr (bx k))) (by simp [Value.oneCell']) (by omega) hn1 hb1 (by simp; omega) _ rfl ?_; intro g cap w5 hown1 hgrow hat1 hlt1; refine Hid.out ?_))
    have hbA : Below wr.heap.size wr (wr.alloc (bx k)) := (Below.refl _ _).alloc (Nat.le_refl _) _
    have hR := b5q hS hz4 hbA hown1 hgrow hat1 (by simp)
    have far5 := fun {C : Nat} (hC : C < w4.heap.size + 1) => hS.far hbA hgrow (.inl rfl) hC
    have hu5 := (far5 (by omega)).trans hS.u
    have hv5 := (far5 (C := w.heap.size + 1 + 1) (by omega)).trans hS.hv
    have u0' : w5.cell? ⟨w4.heap.size, 0, none⟩ = some (.slice b n d) := a0a hu5 rfl
    have u1' : w5.cell? ⟨w4.heap.size, 1, none⟩ = some (.slice b' n' d') := a0a hu5 rfl
    have f0' : w5.frozen? ⟨w4.heap.size, 0, none⟩ = false := a0e hu5
    have f1' : w5.frozen? ⟨w4.heap.size, 1, none⟩ = false := a0e hu5
    obtain ⟨v0', v1', v2', _, _, _⟩ := in3 hv5
    obtain ⟨W6, hW6⟩ := exq (w5.setCell ⟨w4.heap.size, 0, none⟩ (.slice (some ⟨g, 0, none⟩) (X.length + 1) cap))
    have hs65 : W6.heap.size = w5.heap.size := by rw [← hW6]; exact Array.size_modify
    have hnew : (W6.alloc (bx v)).heap[w5.heap.size]? = some (bx v) := by
     have := World.alloc_heap_new W6 (bx v)
     rwa [hs65] at this
    replace hs65 : Hid _ := hs65
    rw [hW6] at hR
    have x0 : W6.cell? ⟨w4.heap.size, 1, none⟩ = some (.slice b' n' d') := a0a hR.u rfl
    obtain ⟨y0, y1, y2, _, _, _⟩ := in3 hR.hv
    replace hW6 : Hid _ := hW6
    have hsz6 := hR.sz
    clear far5 hu5 hv5 hown1 hgrow hat1 hlt1 hbA hS t0 t1 u0 u1 k0 k1 k2 v0 v1 v2
    refine Lib.hid ?_
    go_wp2_with (at_builtin; refine Hid.out ?_)
    rw [hW6.out]
    refine Lib.hid ?_
    clear hW6 u0' u1' f0' f1' v0' v1' v2'
    go_wp2_with (at_builtin; refine wpList_append_lies _ (by rfl) _ _ _ (by rfl) (w4.heap.size + 1) 30 i0 _ 3 32 Tryz.underlying48 hi0 hz0 hz1 hz2 rfl (by omega) (.slice b' n' d') Y.length (flat Y) (by rfl) (a1s hR.own (bx v)).v ⟨w5.heap.size, 0, none⟩ 1 1 (trio v) (by rfl) (by rfl) (news hnew) (by simp [Value.oneCell']) (by omega) hn2 hb2 (by simp; omega) _ rfl ?_; intro g2 cap2 w7 hown2 hgrow2 hat2 hlt2; refine Hid.out ?_)
    have hbB : Below W6.heap.size W6 (W6.alloc (bx v)) := (Below.refl _ _).alloc (Nat.le_refl _) _
    have hR2 := b5r hR hz4 hbB hown2 hgrow2 hat2 (by simp)
    have hu7 := (hR.far hbB hgrow2 (.inr rfl) (C := w4.heap.size) (by omega)).trans hR.u
    have ht7 := (hR.far hbB hgrow2 (.inr rfl) (C := w.heap.size) (by omega)).trans hR.ht
    have z0 : w7.cell? ⟨w4.heap.size, 1, none⟩ = some (.slice b' n' d') := a0a hu7 rfl
    have z1 : w7.frozen? ⟨w4.heap.size, 1, none⟩ = false := a0e hu7
    have z2 : w7.cell? ⟨w.heap.size, 0, none⟩ = some (.slice a zs.length c1) := a0a ht7 rfl
    replace hR2 : Hid _ := hR2
    rw [← hE1, ← hE2] at hR2
    clear hbB hown2 hgrow2 hat2 hlt2 hR hu7 ht7 x0 y0 y1 y2
    refine Lib.hid ?_
    go_wp2
    exact ⟨⟨m + 1, by omega, by simp, _, _, _, _, _, _, hR2.out⟩, by simp [intOf]; omega⟩
   ·have hp : a6b k v zs m m = [] := by unfold a6b; simp [full, hv0]
    have hE : a2d k v zs m (m + 1) = a2d k v zs m m := by rw [a2d, hp, List.append_nil]
    replace hS : Hid _ := hS
    go_wp2
    refine ⟨⟨m + 1, by omega, by simp, b, n, d, b', n', d', by rw [hE]; exact hS.out⟩, by simp [intOf]; omega⟩
  ·by_cases hlt : m < zs.length
   ·obtain ⟨⟨x, y⟩, hxy⟩ : ∃ p, zs[m]? = some p := ⟨zs[m], by simp [hlt]⟩
    have hx : (keysOf zs)[m]? = some x := by simp [keysOf, hxy]
    have hy : (a0q zs)[m]? = some y := by simp [a0q, hxy]
    have hp : a6b k v zs fi m = [(x, y)] := by unfold a6b; rw [if_neg hat, if_neg hat, hxy]; rfl
    have hE : a2d k v zs fi (m + 1) = a2d k v zs fi m ++ [(x, y)] := by rw [a2d, hp]
    obtain ⟨a2, d2, e2, q2, hrow⟩ := hT.out.keys
    simp only [Value.slice.injEq] at e2
    obtain ⟨rfl, q3, rfl⟩ := e2
    clear q2 q3
    obtain ⟨eb, off, rfl, hbl, hel⟩ := hrow (by intro e; rw [e] at hx; simp at hx)
    obtain ⟨a3, d3, e3, q2, hrow'⟩ := hT.out.vals
    simp only [Value.slice.injEq] at e3
    obtain ⟨rfl, q3, rfl⟩ := e3
    clear q2 q3
    obtain ⟨eb', off', rfl, hbl', hel'⟩ := hrow' (by intro e; rw [e] at hy; simp at hy)
    obtain ⟨p0, p1, p2⟩ := (hel m x hx).below hS.bl hbl
    have ny := fun u hu => a1m.below (n₀ := w.heap.size) (A := w) (B := u) hu hbl' (hel' m y hy)
    have hn1 : (keysOf (a2d k v zs fi m)).length + 1 ≤ maxLen := by unfold maxLen; omega
    have hb1 : ((keysOf (a2d k v zs fi m)).length + 1) * 32 ≤ 140737488355328 := by omega
    have hn2 : (a0q (a2d k v zs fi m)).length + 1 ≤ maxLen := by unfold maxLen; omega
    have hb2 : ((a0q (a2d k v zs fi m)).length + 1) * 32 ≤ 140737488355328 := by omega
    have hsz := hS.sz
    obtain ⟨X, hX⟩ := exq (keysOf (a2d k v zs fi m))
    obtain ⟨Y, hY⟩ := exq (a0q (a2d k v zs fi m))
    have hE1 : Hid (keysOf (a2d k v zs fi (m + 1)) = X ++ [x]) := by show keysOf (a2d k v zs fi (m + 1)) = X ++ [x]; rw [hE, b2w, hX]
    have hE2 : Hid (a0q (a2d k v zs fi (m + 1)) = Y ++ [y]) := by show a0q (a2d k v zs fi (m + 1)) = Y ++ [y]; rw [hE, b2x, hY]
    rw [hX] at hn1 hb1
    rw [hY] at hn2 hb2
    rw [hX, hY] at hS
    have hm1 : ((m : Int) == (fi : Int)) = false := by simp; omega
    have hm2 : (m : Int) < (zs.length : Int) := by omega
    have hm0 : (0 : Int) ≤ (m : Int) := by omega
    have hm3 : (m : Int) ≤ 100 := by omega
    have l4 : w4.heap.size < wr.heap.size := by omega
    have l0 : w.heap.size < wr.heap.size := by omega
    have u0a : (wr.alloc (bx x)).cell? ⟨w4.heap.size, 0, none⟩ = some (.slice b n d) := (World.cell?_alloc_past _ _ _ l4).trans u0
    have g0 : wr.frozen? ⟨w4.heap.size, 0, none⟩ = false := a0e hS.u
    clear hkl hvl hX hY hE hp hrow hrow' hel hel' hx hy hxy hlt hend hfl hlen k0 k1 k2 v0 v1 v2
    replace hfu : Hid _ := hfu
    replace hnd : Hid _ := hnd
    replace hS : Hid _ := hS
    replace ny : Hid _ := ny
    go_wp2
    have hDr : Below wr.heap.size wr (wr.alloc (bx x)).drew := ((Below.refl _ _).alloc (Nat.le_refl _) _).drew
    replace hDr : Hid _ := hDr
    go_region_law ((refine step_append_lies _ (by rfl) _ _ _ (by rfl) (w4.heap.size + 1) 30 i0 _ 3 32 Tryz.underlying48 hi0 hz0 hz1 hz2 rfl (by omega) (.slice b n d) X.length (flat X) (by rfl) (a3i (a1s hS.out.own (bx x))).k ⟨wr.heap.size, 0, none⟩ 1 1 (trio x) (by rfl) (by rfl) (news (W := (wr.alloc (bx x)).drew) (World.alloc_heap_new wr (bx x))) (by simp [Value.oneCell']) (by omega) hn1 hb1 (by simp; omega) _ rfl ?_; intro g cap w5 hown1 hgrow hat1 hlt1; have hu5 := (hS.out.far hDr.out hgrow (.inl rfl) (C := w4.heap.size) (by omega)).trans hS.out.u; have x0 : w5.cell? ⟨w4.heap.size, 0, none⟩ = some (.slice b n d) := a0a hu5 rfl; have x1 : w5.frozen? ⟨w4.heap.size, 0, none⟩ = false := a0e hu5))
    all_goals
     have hR := b5q hS.out hz4 hDr.out hown1 hgrow hat1 (by simp)
     obtain ⟨W6, hW6⟩ := exq (w5.setCell ⟨w4.heap.size, 0, none⟩ (.slice (some ⟨g, 0, none⟩) (X.length + 1) cap))
     rw [hW6] at hR
     rw [hW6]
     clear hW6 hown1 hgrow hat1 hlt1 hu5 x0 x1 hDr hS p0 p1 p2 u0 u1 t0 t1 u0a l4 l0 g0 hsz
     have t1 : W6.cell? ⟨w.heap.size, 1, none⟩ = some (.slice (some ⟨eb', off', none⟩) zs.length c2) := a0a hR.ht rfl
     have u1 : W6.cell? ⟨w4.heap.size, 1, none⟩ = some (.slice b' n' d') := a0a hR.u rfl
     have g1 : W6.frozen? ⟨w4.heap.size, 1, none⟩ = false := a0e hR.u
     obtain ⟨r0, r1, r2⟩ := ny.out W6 hR.bl
     have hsz := hR.sz
     have l4 : w4.heap.size < W6.heap.size := by omega
     have l0 : w.heap.size < W6.heap.size := by omega
     have u1a : (W6.alloc (bx y)).cell? ⟨w4.heap.size, 1, none⟩ = some (.slice b' n' d') := (World.cell?_alloc_past _ _ _ l4).trans u1
     have hDr : Hid (Below W6.heap.size W6 (W6.alloc (bx y)).drew) := ((Below.refl _ _).alloc (Nat.le_refl _) _).drew
     replace hR : Hid _ := hR
     refine Lib.hid ?_
     go_wp2
     go_region_law ((refine step_append_lies _ (by rfl) _ _ _ (by rfl) (w4.heap.size + 1) 30 i0 _ 3 32 Tryz.underlying48 hi0 hz0 hz1 hz2 rfl (by omega) (.slice b' n' d') Y.length (flat Y) (by rfl) (a3i (a1s hR.out.own (bx y))).v ⟨W6.heap.size, 0, none⟩ 1 1 (trio y) (by rfl) (by rfl) (news (W := (W6.alloc (bx y)).drew) (World.alloc_heap_new W6 (bx y))) (by simp [Value.oneCell']) (by omega) hn2 hb2 (by simp; omega) _ rfl ?_; intro g2 cap2 w7 hown2 hgrow2 hat2 hlt2; have hu7 := (hR.out.far hDr.out hgrow2 (.inr rfl) (C := w4.heap.size) (by omega)).trans hR.out.u; have x0 : w7.cell? ⟨w4.heap.size, 1, none⟩ = some (.slice b' n' d') := a0a hu7 rfl; have x1 : w7.frozen? ⟨w4.heap.size, 1, none⟩ = false := a0e hu7))
     all_goals
      have hR2 := b5r hR.out hz4 hDr.out hown2 hgrow2 hat2 (by simp)
      rw [← hE1.out, ← hE2.out] at hR2
      obtain ⟨W8, hW8⟩ := exq (w7.setCell ⟨w4.heap.size, 1, none⟩ (.slice (some ⟨g2, 0, none⟩) (Y.length + 1) cap2))
      rw [hW8] at hR2
      rw [hW8]
      clear hW8 hown2 hgrow2 hat2 hlt2 hu7 x0 x1 hDr hR t1 u1 g1 r0 r1 r2 u1a l4 l0 hsz
      replace hR2 : Hid _ := hR2
      refine Lib.hid ?_
      go_wp2
      exact ⟨⟨m + 1, by omega, by simp, _, _, _, _, _, _, hR2.out⟩, by simp [intOf]; omega⟩
   ·obtain rfl : m = zs.length := by omega
    have hp : a6b k v zs fi zs.length = [] := by unfold a6b; rw [if_neg hat, if_neg hat]; simp
    have hE : a2d k v zs fi (zs.length + 1) = a2d k v zs fi zs.length := by rw [a2d, hp, List.append_nil]
    replace hS : Hid _ := hS
    go_wp2
    refine ⟨⟨zs.length + 1, by omega, by simp, b, n, d, b', n', d', by rw [hE]; exact hS.out⟩, by simp [intOf]⟩
theorem c4t (ks vs : Value) (xs ys : List Vl) (k v : Vl) (w : World) (hT : Tab w.heap.size w ks vs xs ys) :
  Calls Tryz.prog 106 #[.agg #[ks, vs], k.v, v.v] w fun e w' => ∃ a m c a' m' c', e = .returned (.tuple #[.agg #[.slice a m c, .slice a' m' c'], .int .i64 (setT xs ys k v).2]) ∧
   Own2 w.heap.size w' (.slice a m c) (.slice a' m' c') (keysOf (setT xs ys k v).1) (a0q (setT xs ys k v).1) ∧ Below w.heap.size w w' := by
 have err : ∀ ec : Int, setT xs ys k v = ([], ec) → (Calls Tryz.prog 106 #[.agg #[ks, vs], k.v, v.v] w fun e w' => e = .returned (.tuple #[.agg #[.slice none 0 0, .slice none 0 0], .int .i64 ec]) ∧ Below w.heap.size w w') → Calls Tryz.prog 106 #[.agg #[ks, vs], k.v, v.v] w fun e w' => ∃ a m c a' m' c', e = .returned (.tuple #[.agg #[.slice a m c, .slice a' m' c'], .int .i64 (setT xs ys k v).2]) ∧
   Own2 w.heap.size w' (.slice a m c) (.slice a' m' c') (keysOf (setT xs ys k v).1) (a0q (setT xs ys k v).1) ∧ Below w.heap.size w w' := fun ec he h => by
  rw [he]
  exact h.mono fun e w' ⟨h1, h2⟩ => ⟨none, 0, 0, none, 0, 0, h1, a4y _ _, h2⟩
 cases h : mayT xs ys
 ·exact err 2 (by simp [setT, h]) (c8w ks vs xs ys k v w hT h)
 ·cases h1 : mayB k.k k.n k.s
  ·exact err 2 (by simp [setT, h1]) (c8x ks vs xs ys k v w hT h h1)
  ·cases h2 : mayB v.k v.n v.s
   ·exact err 2 (by simp [setT, h2]) (c8y ks vs xs ys k v w hT h h1 h2)
   ·cases h3 : (k.k == 0)
    ·obtain ⟨hl, hl', hx, hy, hn⟩ := b0o h
     have hfu : ∀ p ∈ xs.zip ys, full p = true := fun p hp => by
      have := hy _ (List.of_mem_zip hp).2
      simp [stB] at this
      simp [full, this.1]
     have := c9f ks vs (xs.zip ys) (by rw [List.length_zip]; omega) k v w (by rw [a2j hl, a2y hl]; exact hT) (by rw [a2j hl, a2y hl]; exact h) h1 h2 h3 hfu (by rw [a2j hl]; exact hn)
     have e : setT xs ys k v = (if 100 < (setZ k v (xs.zip ys)).length then [] else setZ k v (xs.zip ys), if 100 < (setZ k v (xs.zip ys)).length then 1 else 0) := by
      have h3' : ¬ k.k = 0 := by simpa using h3
      unfold setT
      rw [if_neg (by simp [h, h1, h2]), if_neg h3']
      split <;> rfl
     rw [e]
     exact this
    ·have h3' : k.k = 0 := by simpa using h3
     exact err 3 (by unfold setT; rw [if_neg (by simp [h, h1, h2]), if_pos h3']) (c8z ks vs xs ys k v w hT h h1 h2 h3)
end
end Go.Proofs.YthpgbienakcbeaaGreatDoor
