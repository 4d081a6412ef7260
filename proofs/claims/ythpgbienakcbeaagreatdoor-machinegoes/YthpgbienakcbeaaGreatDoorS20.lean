/- The document's Step: what lies in memory as it begins. -/
import Derived.Test.YthpgbienakcbeaaGreatDoorS19
import Derived.Test.YthpgbienakcbeaaGreatDoorS11
import Derived.StillTailTactics
namespace Go.Proofs.YthpgbienakcbeaaGreatDoor
open Go.RowKit Go
set_option maxRecDepth 100000
set_option maxHeartbeats 8000000
set_option linter.all false
variable {W W' u V w w1 X : World} {b i g a B F fc k C fb off nf cf fn pc ib ioff il ic rn gc rc : Nat} {v x y z : Vl} {mn op oa ob oc st c e nx : Int}
section
variable [DecidableEq Vl]
theorem a0v (hb : Below W.heap.size W W') {v : Value} (h : W.cell? ⟨b, i, none⟩ = some v) : W'.cell? ⟨b, i, none⟩ = some v :=
 (hb.cell (p := ⟨b, i, none⟩) (World.block_lt_of_cell? _ _ h)).trans h
theorem a0w {v : Value} (h : W.cell? ⟨b, i, none⟩ = some v) : b < W.heap.size := World.block_lt_of_cell? _ _ h
theorem b2s (hb : Below W.heap.size W W') (hl : b < W.heap.size) (h : W.frozen? ⟨b, i, none⟩ = false) : W'.frozen? ⟨b, i, none⟩ = false := (hb.frozen (p := ⟨b, i, none⟩) hl).trans h
structure RgA (W : World) (g a : Nat) (v : Vl) : Prop where
 c0 : W.cell? ⟨g, a * 3, none⟩ = some (.int .i64 v.k)
 c1 : W.cell? ⟨g, a * 3 + 1, none⟩ = some (.int .i64 v.n)
 c2 : W.cell? ⟨g, a * 3 + 2, none⟩ = some (.string v.s)
 f0 : W.frozen? ⟨g, a * 3, none⟩ = false
 f1 : W.frozen? ⟨g, a * 3 + 1, none⟩ = false
 f2 : W.frozen? ⟨g, a * 3 + 2, none⟩ = false
theorem RgA.on (h : RgA W g a v) (hb : Below W.heap.size W W') : RgA W' g a v :=
 ⟨a0v hb h.c0, a0v hb h.c1, a0v hb h.c2, b2s hb (a0w h.c0) h.f0, b2s hb (a0w h.c0) h.f1, b2s hb (a0w h.c0) h.f2⟩
structure SF (B F fc k C fb off nf cf : Nat) (mn : Int) (fn pc ib ioff il ic g rn gc : Nat) (op oa ob oc : Int) (u : World) : Prop where
 c0 : u.cell? ⟨B, 0, none⟩ = some (.slice (some ⟨F, 0, none⟩) (k + 1) fc)
 t0 : u.cell? ⟨F, k * 4, none⟩ = some (.int .i64 (fn : Nat))
 t1 : u.cell? ⟨F, k * 4 + 1, none⟩ = some (.int .i64 (pc : Nat))
 t3 : u.cell? ⟨F, k * 4 + 3, none⟩ = some (.slice (some ⟨g, 0, none⟩) rn gc)
 z1 : u.frozen? ⟨F, k * 4 + 1, none⟩ = false
 m0 : u.cell? ⟨C, 0, none⟩ = some (.slice (some ⟨fb, off, none⟩) nf cf)
 m1 : u.cell? ⟨C, 1, none⟩ = some (.int .i64 mn)
 e3 : u.cell? ⟨fb, off + fn * 4 + 3, none⟩ = some (.slice (some ⟨ib, ioff, none⟩) il ic)
 o0 : u.cell? ⟨ib, ioff + pc * 4, none⟩ = some (.int .i64 op)
 o1 : u.cell? ⟨ib, ioff + pc * 4 + 1, none⟩ = some (.int .i64 oa)
 o2 : u.cell? ⟨ib, ioff + pc * 4 + 2, none⟩ = some (.int .i64 ob)
 o3 : u.cell? ⟨ib, ioff + pc * 4 + 3, none⟩ = some (.int .i64 oc)
 b4 : ∃ en, u.cell? ⟨B, 4, none⟩ = some (.int .i64 en)
 b5 : ∃ er, u.cell? ⟨B, 5, none⟩ = some (.int .i64 er)
 bf : ∀ i, u.frozen? ⟨B, i, none⟩ = false
theorem SF.on {v : World} (h : SF B F fc k C fb off nf cf mn fn pc ib ioff il ic g rn gc op oa ob oc u) (hb : Below u.heap.size u v) : SF B F fc k C fb off nf cf mn fn pc ib ioff il ic g rn gc op oa ob oc v := by
 obtain ⟨en, h4⟩ := h.b4
 obtain ⟨er, h5⟩ := h.b5
 exact ⟨a0v hb h.c0, a0v hb h.t0, a0v hb h.t1, a0v hb h.t3, b2s hb (a0w h.t1) h.z1, a0v hb h.m0, a0v hb h.m1, a0v hb h.e3, a0v hb h.o0, a0v hb h.o1, a0v hb h.o2, a0v hb h.o3, ⟨en, a0v hb h4⟩, ⟨er, a0v hb h5⟩, fun i => b2s hb (a0w h.c0) (h.bf i)⟩
structure SB (B F fc k fb off nf cf : Nat) (mn : Int) (fn pc ib ioff il ic g rn gc : Nat) (op oa ob oc st : Int) (W w1 X : World) : Prop where
 a1 : W.alloc (.cells #[.slice (some ⟨fb, off, none⟩) nf cf, .int .i64 mn] 24) = w1
 x1 : w1.setCell ⟨B, 3, none⟩ (.int .i64 (st + 1)) = X
 y3 : w1.cell? ⟨B, 3, none⟩ = some (.int .i64 st)
 f3 : w1.frozen? ⟨B, 3, none⟩ = false
 s0 : 0 ≤ st
 s1 : st ≤ 60000
 sf : SF B F fc k W.heap.size fb off nf cf mn fn pc ib ioff il ic g rn gc op oa ob oc X
 hk : k ≤ 1000
 hfn : fn < nf
 hpl : pc < il
 hpm : pc ≤ 100000
 hrm : rn ≤ 250
 gF : ¬ g = F
theorem b2t {j : Nat} {x y z : Value} (h : ¬ b = g) : (((V.setCell ⟨g, i, none⟩ x).setCell ⟨g, i + 1, none⟩ y).setCell ⟨g, i + 2, none⟩ z).cell? ⟨b, j, none⟩ = V.cell? ⟨b, j, none⟩ ∧ (((V.setCell ⟨g, i, none⟩ x).setCell ⟨g, i + 1, none⟩ y).setCell ⟨g, i + 2, none⟩ z).frozen? ⟨b, j, none⟩ = V.frozen? ⟨b, j, none⟩ := by
 have hk : (((V.setCell ⟨g, i, none⟩ x).setCell ⟨g, i + 1, none⟩ y).setCell ⟨g, i + 2, none⟩ z).heap[b]? = V.heap[b]? := by
  rw [Below.heap_setCell _ ⟨g, i + 2, none⟩ _ b h, Below.heap_setCell _ ⟨g, i + 1, none⟩ _ b h, Below.heap_setCell _ ⟨g, i, none⟩ _ b h]
 exact ⟨World.cell?_of_block (a := ⟨b, j, none⟩) hk, by simp only [World.frozen?]; rw [hk]⟩
theorem a7x {m : Nat} (h : Below m w V) (hB : m ≤ B) (x y z : Value) : Below m w (((V.setCell ⟨B, 0, none⟩ x).setCell ⟨B, 1, none⟩ y).setCell ⟨B, 2, none⟩ z) := ((h.setCell (p := ⟨B, 0, none⟩) hB _).setCell (p := ⟨B, 1, none⟩) hB _).setCell (p := ⟨B, 2, none⟩) hB _
theorem a9q {P : Program} {id : Nat} {Q : Exit → Act → World → Prop} {a : Act} {l : List Oper} (n : Nat) (w' : World) (hw : w.drew = w') (hm : P.follows .mixedOrders = true) (hB : Region.lexTailB .any l.toArray n = true) (h : wpStill P l.toArray w' (fun a' => wpList P l.toArray Q (l.drop n) a' w') (l.take n) a) : (Code.region id l.toArray true).wp P Q a w := by
 subst hw
 exact wp_region_still_tail n hm hB h
structure SG (B F k g a pc : Nat) (z : Vl) (u : World) : Prop where
 t1 : u.cell? ⟨F, k * 4 + 1, none⟩ = some (.int .i64 (pc : Nat))
 z1 : u.frozen? ⟨F, k * 4 + 1, none⟩ = false
 rz : RgA u g a z
 b4 : ∃ en, u.cell? ⟨B, 4, none⟩ = some (.int .i64 en)
 b5 : ∃ er, u.cell? ⟨B, 5, none⟩ = some (.int .i64 er)
 f4 : u.frozen? ⟨B, 4, none⟩ = false
 f5 : u.frozen? ⟨B, 5, none⟩ = false
theorem SG.on {v : World} (h : SG B F k g a pc z u) (hb : Below u.heap.size u v) : SG B F k g a pc z v := by
 obtain ⟨en, h4⟩ := h.b4
 obtain ⟨er, h5⟩ := h.b5
 exact ⟨a0v hb h.t1, b2s hb (a0w h.t1) h.z1, h.rz.on hb, ⟨en, a0v hb h4⟩, ⟨er, a0v hb h5⟩, b2s hb (a0w h4) h.f4, b2s hb (a0w h4) h.f5⟩
theorem SF.sg (h : SF B F fc k C fb off nf cf mn fn pc ib ioff il ic g rn gc op oa ob oc u) (rz : RgA u g a z) : SG B F k g a pc z u := ⟨h.t1, h.z1, rz, h.b4, h.b5, h.bf 4, h.bf 5⟩
theorem a5w {v : World} (h : v.heap[b]? = u.heap[b]?) : v.cell? ⟨b, i, none⟩ = u.cell? ⟨b, i, none⟩ ∧ v.frozen? ⟨b, i, none⟩ = u.frozen? ⟨b, i, none⟩ := ⟨World.cell?_of_block (a := ⟨b, i, none⟩) h, by simp only [World.frozen?]; rw [h]⟩
theorem SG.blk {v : World} (h : SG B F k g a pc z u) (h1 : v.heap[B]? = u.heap[B]?) (h2 : v.heap[F]? = u.heap[F]?) (h3 : v.heap[g]? = u.heap[g]?) : SG B F k g a pc z v := by
 obtain ⟨en, h4⟩ := h.b4
 obtain ⟨er, h5⟩ := h.b5
 exact ⟨(a5w h2).1.trans h.t1, (a5w h2).2.trans h.z1, ⟨(a5w h3).1.trans h.rz.c0, (a5w h3).1.trans h.rz.c1, (a5w h3).1.trans h.rz.c2, (a5w h3).2.trans h.rz.f0, (a5w h3).2.trans h.rz.f1, (a5w h3).2.trans h.rz.f2⟩, ⟨en, (a5w h1).1.trans h4⟩, ⟨er, (a5w h1).1.trans h5⟩, (a5w h1).2.trans h.f4, (a5w h1).2.trans h.f5⟩
structure S9 (B F fc k fb off nf cf : Nat) (mn : Int) (fn pc ib ioff il ic g rn gc : Nat) (op oa ob oc st : Int) (W w1 X w2 wa w3 : World) : Prop where
 b : SB B F fc k fb off nf cf mn fn pc ib ioff il ic g rn gc op oa ob oc st W w1 X
 hw2 : (X.alloc (.cells #[.int .i64 op, .int .i64 oa, .int .i64 ob, .int .i64 oc] 82)).drew = w2
 hwa : w2.alloc (.cells #[.int .i64 0, .int .i64 0, .string ⟨#[]⟩] 30) = wa
 hw3 : ((wa.setCell ⟨w2.heap.size, 0, none⟩ (.int .i64 0)).setCell ⟨w2.heap.size, 1, none⟩ (.int .i64 0)).setCell ⟨w2.heap.size, 2, none⟩ (.string ⟨#[]⟩) = w3
 E2 : Below X.heap.size X w2
 EX : Below X.heap.size X w3
 g6 : w2.heap[X.heap.size]? = some (.cells #[.int .i64 op, .int .i64 oa, .int .i64 ob, .int .i64 oc] 82)
 h6 : w3.heap[X.heap.size]? = some (.cells #[.int .i64 op, .int .i64 oa, .int .i64 ob, .int .i64 oc] 82)
 h9a : wa.heap[w2.heap.size]? = some (bx nilV)
 h9 : w3.heap[w2.heap.size]? = some (bx nilV)
 lt : B < X.heap.size ∧ F < X.heap.size ∧ W.heap.size < X.heap.size ∧ fb < X.heap.size ∧ ib < X.heap.size ∧ X.heap.size < w2.heap.size ∧ w2.heap.size < w3.heap.size
 ne : ¬ X.heap.size = B ∧ ¬ X.heap.size = F ∧ ¬ X.heap.size = W.heap.size ∧ ¬ X.heap.size = fb ∧ ¬ X.heap.size = ib ∧ ¬ w2.heap.size = X.heap.size ∧ ¬ X.heap.size = w2.heap.size
theorem SB.s9 (h : SB B F fc k fb off nf cf mn fn pc ib ioff il ic g rn gc op oa ob oc st W w1 X) : ∃ w2 wa w3, S9 B F fc k fb off nf cf mn fn pc ib ioff il ic g rn gc op oa ob oc st W w1 X w2 wa w3 := by
 have sf := h.sf
 have lB := a0w sf.c0
 have lF := a0w sf.t0
 have lC := a0w sf.m0
 have lfb := a0w sf.e3
 have lib := a0w sf.o0
 obtain ⟨w2, hw2⟩ := exq ((X.alloc (.cells #[.int .i64 op, .int .i64 oa, .int .i64 ob, .int .i64 oc] 82)).drew)
 have E2 : Below X.heap.size X w2 := by rw [← hw2]; exact a0i (a0c (Below.refl _ _) _)
 have g6 : w2.heap[X.heap.size]? = some (.cells #[.int .i64 op, .int .i64 oa, .int .i64 ob, .int .i64 oc] 82) := by rw [← hw2]; exact a0h _ _
 have h9a : (w2.alloc (.cells #[.int .i64 0, .int .i64 0, .string ⟨#[]⟩] 30)).heap[w2.heap.size]? = some (bx nilV) := a0h _ _
 obtain ⟨wa, hwa⟩ := exq (w2.alloc (.cells #[.int .i64 0, .int .i64 0, .string ⟨#[]⟩] 30))
 have Ea : Below w2.heap.size w2 wa := by rw [← hwa]; exact a0c (Below.refl _ _) _
 rw [hwa] at h9a
 obtain ⟨w3, hw3⟩ := exq (((wa.setCell ⟨w2.heap.size, 0, none⟩ (.int .i64 0)).setCell ⟨w2.heap.size, 1, none⟩ (.int .i64 0)).setCell ⟨w2.heap.size, 2, none⟩ (.string ⟨#[]⟩))
 have E3 : Below w2.heap.size w2 w3 := by rw [← hw3]; exact a7x Ea (Nat.le_refl _) _ _ _
 have h9 : w3.heap[w2.heap.size]? = some (bx nilV) := by rw [← hw3]; exact a0o nilV h9a
 have l6 := (Array.getElem?_eq_some_iff.1 g6).1
 have l9 := (Array.getElem?_eq_some_iff.1 h9).1
 exact ⟨w2, wa, w3, h, hw2, hwa, hw3, E2, a0b E2 E3, g6, a0j E3 g6, h9a, h9, ⟨lB, lF, lC, lfb, lib, l6, l9⟩, ⟨by omega, by omega, by omega, by omega, by omega, by omega, by omega⟩⟩
theorem a1c {a b c d : Value} (h : W.heap[B]? = some (.cells #[a, b, c, d] 82)) : W.cell? ⟨B, 0, none⟩ = some a ∧ W.cell? ⟨B, 1, none⟩ = some b ∧ W.cell? ⟨B, 2, none⟩ = some c ∧ W.cell? ⟨B, 3, none⟩ = some d := ⟨a0a h rfl, a0a h rfl, a0a h rfl, a0a h rfl⟩
theorem put9 {x n9 : Nat} {u : Vl} {Y : World} {o : Obj} (h9 : Y.heap[n9]? = some (bx u)) (h6 : Y.heap[x]? = some o) (hn : ¬ x = n9) (hs : SG B F k g a pc z Y) (hb : ¬ B = n9) (hf : ¬ F = n9) (hg : ¬ g = n9) (v : Vl) :
  ∃ w4, ((Y.setCell ⟨n9, 0, none⟩ (.int .i64 v.k)).setCell ⟨n9, 1, none⟩ (.int .i64 v.n)).setCell ⟨n9, 2, none⟩ (.string v.s) = w4 ∧ w4.heap[n9]? = some (bx v) ∧ w4.heap[x]? = some o ∧ SG B F k g a pc z w4 ∧ ∀ m w, Below m w Y → m ≤ n9 → Below m w w4 :=
 ⟨_, rfl, a0o v h9, (a1o Y v hn).trans h6, hs.blk (a1o Y v hb) (a1o Y v hf) (a1o Y v hg), fun _ _ h hm => a7x h hm _ _ _⟩
theorem reg5 {w4 : World} (gF : ¬ g = F) (t : w4.cell? ⟨F, k * 4 + 1, none⟩ = some (.int .i64 (pc : Nat))) (z : w4.frozen? ⟨F, k * 4 + 1, none⟩ = false) (v : Vl) :
  ∃ w5, ((w4.setCell ⟨g, a * 3, none⟩ (.int .i64 v.k)).setCell ⟨g, a * 3 + 1, none⟩ (.int .i64 v.n)).setCell ⟨g, a * 3 + 2, none⟩ (.string v.s) = w5 ∧ w5.cell? ⟨F, k * 4 + 1, none⟩ = some (.int .i64 (pc : Nat)) ∧ w5.frozen? ⟨F, k * 4 + 1, none⟩ = false :=
 ⟨_, rfl, (b2t (fun e => gF e.symm)).1.trans t, (b2t (fun e => gF e.symm)).2.trans z⟩
def OkQ (X : World) (g a F k : Nat) (pc : Int) (v : Vl) (E : Ending) (W' : World) : Prop := E = .returned (.tuple #[]) ∧ ∃ V, Below X.heap.size X V ∧ W' = (((V.setCell ⟨g, a * 3, none⟩ (.int .i64 v.k)).setCell ⟨g, a * 3 + 1, none⟩ (.int .i64 v.n)).setCell ⟨g, a * 3 + 2, none⟩ (.string v.s)).setCell ⟨F, k * 4 + 1, none⟩ (.int .i64 pc)
def NoQ (X : World) (B : Nat) (e : Int) (E : Ending) (W' : World) : Prop := E = .returned (.tuple #[]) ∧ ∃ V, Below X.heap.size X V ∧ W' = (V.setCell ⟨B, 4, none⟩ (.int .i64 2)).setCell ⟨B, 5, none⟩ (.int .i64 e)
theorem c4e (w3 : World) : ∃ wb wc, w3.alloc (.cells #[.int .i64 0, .int .i64 0, .string ⟨#[]⟩] 30) = wb ∧ ((wb.setCell ⟨w3.heap.size, 0, none⟩ (.int .i64 0)).setCell ⟨w3.heap.size, 1, none⟩ (.int .i64 0)).setCell ⟨w3.heap.size, 2, none⟩ (.string ⟨#[]⟩) = wc ∧ wb.heap[w3.heap.size]? = some (bx nilV) ∧ wc.heap[w3.heap.size]? = some (bx nilV) ∧ Below w3.heap.size w3 wc :=
 ⟨_, _, rfl, rfl, a0h _ _, a0o (x := nilV) nilV (a0h w3 _), a7x (a0c (Below.refl _ _) _) (Nat.le_refl _) _ _ _⟩
theorem c9d (hB : SB B F fc k fb off nf cf mn fn pc ib ioff il ic g rn gc 1 (a : Nat) (b : Nat) c st W w1 X) (la : a < rn) (lb : b < rn) (rv : a1m X g (b * 3) v) (rz : RgA X g a z) :
  Calls Tryz.prog 34 #[.agg #[.slice (some ⟨fb, off, none⟩) nf cf, .int .i64 mn], .pointer (some ⟨B, 0, none⟩)] W (OkQ X g a F k ((pc : Int) + 1) v) := by
 obtain ⟨w2, wa, w3, H⟩ := hB.s9
 obtain ⟨hw1, hX, y3, f3, s0, s1, sf, hk, hfn, hpl, hpm, hrm, gF⟩ := hB
 have sfX : Hid _ := sf
 obtain ⟨c0, t0, t1, t3, z1, m0, m1, e3, o0, o1, o2, o3, _, _, _⟩ := sf
 obtain ⟨_, hw2, hwa, hw3, E2, EX, g6, h6, h9a, h9, ⟨lB, lF, lC, lfb, lib, l6, l9⟩, ⟨n1, n2, n3, n4, n5, u69, u96⟩⟩ := H
 go_enter Tryz.func34, Tryz.ntmps34
 go_wp2
 go_region
 clear c0 t0 t1 t3 z1 m0 m1 e3 o0 o1 o2 o3 n1 n2 n3 n4 n5 y3 f3
 try rw [hw2]
 clear hw2
 obtain ⟨c0, t0, t1, t3, z1, m0, m1, _, _, _, _, _, ⟨en, b4⟩, ⟨er, b5⟩, bf⟩ := sfX.out.on E2
 obtain ⟨p0, p1, p2, p3⟩ := a1c g6
 obtain ⟨q0, q1, q2, q3⟩ := a1c h6
 obtain ⟨xa0, xa1, xa2, xaf0, xaf1, xaf2⟩ := in3 h9a
 obtain ⟨x0, x1, x2, xf0, xf1, xf2⟩ := in3 h9
 have lg := a0w rz.c0
 obtain ⟨yy0, yy1, yy2, yf0, yf1, yf2⟩ := in3 h9
 obtain ⟨w4, hw4, K9, K6, ⟨T1, Z1, ⟨z0', z1', z2', z3', z4', z5'⟩, ⟨en', B4⟩, ⟨er', B5⟩, F4, F5⟩, hlow⟩ := put9 h9 h6 u96 ((sfX.out.sg rz).on EX) (by omega) (by omega) (by omega) v
 obtain ⟨r0, r1, r2, _, _, _⟩ := in3 K9
 have k1 := (a1c K6).2.1
 obtain ⟨w5, hw5, T5, Z5⟩ := reg5 (a := a) gF T1 Z1 v
 obtain ⟨v0, v1, v2⟩ := rv.below EX (a0w rv.k)
 have E4 := hlow _ _ EX (by omega)
 go_wp2
 go_end0
 exact ⟨rfl, w4, E4, by rw [← hw5]⟩
theorem c4f (hB : SB B F fc k fb off nf cf mn fn pc ib ioff il ic g rn gc 2 (a : Nat) (b : Nat) c st W w1 X) {cb coff cl ccp : Nat} (la : a < rn) (lb : b < cl) (rz : RgA X g a z) (hcs : X.cell? ⟨fb, off + fn * 4 + 2, none⟩ = some (.slice (some ⟨cb, coff, none⟩) cl ccp)) (rv : a1m X cb (coff + b * 3) v) :
  Calls Tryz.prog 34 #[.agg #[.slice (some ⟨fb, off, none⟩) nf cf, .int .i64 mn], .pointer (some ⟨B, 0, none⟩)] W (OkQ X g a F k ((pc : Int) + 1) v) := by
 obtain ⟨w2, wa, w3, H⟩ := hB.s9
 obtain ⟨hw1, hX, y3, f3, s0, s1, sf, hk, hfn, hpl, hpm, hrm, gF⟩ := hB
 have sfX : Hid _ := sf
 obtain ⟨c0, t0, t1, t3, z1, m0, m1, e3, o0, o1, o2, o3, _, _, _⟩ := sf
 obtain ⟨_, hw2, hwa, hw3, E2, EX, g6, h6, h9a, h9, ⟨lB, lF, lC, lfb, lib, l6, l9⟩, ⟨n1, n2, n3, n4, n5, u69, u96⟩⟩ := H
 go_enter Tryz.func34, Tryz.ntmps34
 go_wp2
 go_region
 clear c0 t0 t1 t3 z1 m0 m1 e3 o0 o1 o2 o3 n1 n2 n3 n4 n5 y3 f3
 try rw [hw2]
 clear hw2
 obtain ⟨c0, t0, t1, t3, z1, m0, m1, _, _, _, _, _, ⟨en, b4⟩, ⟨er, b5⟩, bf⟩ := sfX.out.on E2
 obtain ⟨p0, p1, p2, p3⟩ := a1c g6
 obtain ⟨q0, q1, q2, q3⟩ := a1c h6
 obtain ⟨xa0, xa1, xa2, xaf0, xaf1, xaf2⟩ := in3 h9a
 obtain ⟨x0, x1, x2, xf0, xf1, xf2⟩ := in3 h9
 have lg := a0w rz.c0
 obtain ⟨wY, hwY⟩ := exq (w3.drew)
 have EY : Below w3.heap.size w3 wY := by rw [← hwY]; exact a0i (Below.refl _ _)
 have h9Y := a0j EY h9
 have h6Y := a0j EY h6
 have EXY := a0b EX EY
 obtain ⟨qY0, qY1, qY2, qY3⟩ := a1c h6Y
 obtain ⟨yy0, yy1, yy2, yf0, yf1, yf2⟩ := in3 h9Y
 obtain ⟨w4, hw4, K9, K6, ⟨T1, Z1, ⟨z0', z1', z2', z3', z4', z5'⟩, ⟨en', B4⟩, ⟨er', B5⟩, F4, F5⟩, hlow⟩ := put9 h9Y h6Y u96 ((sfX.out.sg rz).on EXY) (by omega) (by omega) (by omega) v
 obtain ⟨r0, r1, r2, _, _, _⟩ := in3 K9
 have k1 := (a1c K6).2.1
 obtain ⟨w5, hw5, T5, Z5⟩ := reg5 (a := a) gF T1 Z1 v
 obtain ⟨v0, v1, v2⟩ := rv.below EXY (a0w rv.k)
 have hc3 := a0v EXY hcs
 obtain ⟨_, T0, _, _, _, M0, _⟩ := sfX.out.on EXY
 have E4 := hlow _ _ EXY (by omega)
 go_wp2
 refine a9q 13 wY hwY (by kernel_rfl) (by kernel_rfl) ?_
 clear hwY
 simp only [List.take_succ_cons, List.take_zero, List.drop_succ_cons, List.drop_zero]
 repeat still_step
 refine wpStill_nil ?_
 go_wp2
 go_end0
 exact ⟨rfl, w4, E4, by rw [← hw5]⟩
theorem c4g (hB : SB B F fc k fb off nf cf mn fn pc ib ioff il ic g rn gc op (a : Nat) (b : Nat) (rc : Nat) st W w1 X) (hop1 : 20 < op) (hop2 : op < 30) (la : a < rn) (lb : b < rn) (lc : rc < rn) (rx : a1m X g (b * 3) x) (ry : a1m X g (rc * 3) y) (rz : RgA X g a z) (hcall : ∀ u, Below X.heap.size X u → Calls Tryz.prog 55 #[.int .i64 (op - 20), x.v, y.v] u fun E W' => E = .returned (.tuple #[v.v, .int .i64 0]) ∧ Below u.heap.size u W') :
  Calls Tryz.prog 34 #[.agg #[.slice (some ⟨fb, off, none⟩) nf cf, .int .i64 mn], .pointer (some ⟨B, 0, none⟩)] W (OkQ X g a F k ((pc : Int) + 1) v) := by
 obtain ⟨w2, wa, w3, H⟩ := hB.s9
 obtain ⟨hw1, hX, y3, f3, s0, s1, sf, hk, hfn, hpl, hpm, hrm, gF⟩ := hB
 have sfX : Hid _ := sf
 obtain ⟨c0, t0, t1, t3, z1, m0, m1, e3, o0, o1, o2, o3, _, _, _⟩ := sf
 obtain ⟨_, hw2, hwa, hw3, E2, EX, g6, h6, h9a, h9, ⟨lB, lF, lC, lfb, lib, l6, l9⟩, ⟨n1, n2, n3, n4, n5, u69, u96⟩⟩ := H
 go_enter Tryz.func34, Tryz.ntmps34
 go_wp2
 go_region
 clear c0 t0 t1 t3 z1 m0 m1 e3 o0 o1 o2 o3 n1 n2 n3 n4 n5 y3 f3
 try rw [hw2]
 clear hw2
 obtain ⟨c0, t0, t1, t3, z1, m0, m1, _, _, _, _, _, ⟨en, b4⟩, ⟨er, b5⟩, bf⟩ := sfX.out.on E2
 obtain ⟨p0, p1, p2, p3⟩ := a1c g6
 obtain ⟨q0, q1, q2, q3⟩ := a1c h6
 obtain ⟨xa0, xa1, xa2, xaf0, xaf1, xaf2⟩ := in3 h9a
 obtain ⟨x0, x1, x2, xf0, xf1, xf2⟩ := in3 h9
 have lg := a0w rz.c0
 obtain ⟨wb, wc, hwb, hwc, h12a, h12, Ec⟩ := c4e w3
 obtain ⟨xb0, xb1, xb2, xbf0, xbf1, xbf2⟩ := in3 h12a
 obtain ⟨xc0, xc1, xc2, xcf0, xcf1, xcf2⟩ := in3 h12
 have h6c := a0j Ec h6
 have h9c := a0j Ec h9
 have EXc := a0b EX Ec
 obtain ⟨qc0, qc1, qc2, qc3⟩ := a1c h6c
 obtain ⟨y0, y1, y2⟩ := ry.below EXc (a0w ry.k)
 obtain ⟨wd, hwd⟩ := exq (put3 wc w3.heap.size y)
 have h12d : wd.heap[w3.heap.size]? = some (bx y) := by rw [← hwd]; exact a0o y h12
 have Ed : Below w3.heap.size w3 wd := by rw [← hwd]; exact a7x Ec (Nat.le_refl _) _ _ _
 unfold put3 at hwd
 obtain ⟨xd0, xd1, xd2, _, _, _⟩ := in3 h12d
 have h6d := a0j Ed h6
 have h9d := a0j Ed h9
 have EXd := a0b EX Ed
 have qd0 := a0a (i := 0) h6d rfl
 have qd2 := a0a (i := 2) h6d rfl
 obtain ⟨v0, v1, v2⟩ := rx.below EXd (a0w rx.k)
 have w69 : ¬ w3.heap.size = w2.heap.size := by omega
 have w96 : ¬ w2.heap.size = w3.heap.size := by omega
 have hw20 : IntKind.i64.wrap (op - 20) = op - 20 := IntWalk.i64_in _ ⟨by omega, by omega⟩
 replace hcall : Hid _ := hcall
 have hS : ∀ u, Below wd.heap.size wd u → u.cell? ⟨X.heap.size, 0, none⟩ = some (.int .i64 op) ∧ u.cell? ⟨X.heap.size, 2, none⟩ = some (.int .i64 (b : Nat)) ∧ u.cell? ⟨g, b * 3, none⟩ = some (.int .i64 x.k) ∧ u.cell? ⟨g, b * 3 + 1, none⟩ = some (.int .i64 x.n) ∧ u.cell? ⟨g, b * 3 + 2, none⟩ = some (.string x.s) ∧ u.cell? ⟨w3.heap.size, 0, none⟩ = some (.int .i64 y.k) ∧ u.cell? ⟨w3.heap.size, 1, none⟩ = some (.int .i64 y.n) ∧ u.cell? ⟨w3.heap.size, 2, none⟩ = some (.string y.s) := fun u hu => ⟨a0v hu qd0, a0v hu qd2, a0v hu v0, a0v hu v1, a0v hu v2, a0v hu xd0, a0v hu xd1, a0v hu xd2⟩
 replace hS : Hid _ := hS
 have hN : ∀ u, Below wd.heap.size wd u → u.heap[w2.heap.size]? = some (bx nilV) := fun u hu => a0j hu h9d
 replace hN : Hid _ := hN
 have v69 : ¬ g = w2.heap.size := by omega
 have v96 : ¬ w2.heap.size = g := by omega
 replace rz : Hid _ := rz
 go_wp2
 go_region_held3 (fun u => u.cell? ⟨X.heap.size, 0, none⟩ = some (.int .i64 op) ∧ u.cell? ⟨X.heap.size, 2, none⟩ = some (.int .i64 (b : Nat)) ∧ u.cell? ⟨g, b * 3, none⟩ = some (.int .i64 x.k) ∧ u.cell? ⟨g, b * 3 + 1, none⟩ = some (.int .i64 x.n) ∧ u.cell? ⟨g, b * 3 + 2, none⟩ = some (.string x.s) ∧ u.cell? ⟨w3.heap.size, 0, none⟩ = some (.int .i64 y.k) ∧ u.cell? ⟨w3.heap.size, 1, none⟩ = some (.int .i64 y.n) ∧ u.cell? ⟨w3.heap.size, 2, none⟩ = some (.string y.s)) (go_keep) (first | (go_at_call 55; refine (hcall.out _ (a0i EXd)).mono ?_; rintro E w6 ⟨rfl, hb6⟩; have N6 := a0b (a0i (Below.refl wd.heap.size wd)) hb6; obtain ⟨s0, s1, s2, s3, s4, s5, s6, s7⟩ := hS.out w6 N6; obtain ⟨j0, j1, j2, jf0, jf1, jf2⟩ := in3 (hN.out w6 N6)))
 replace rz := rz.out
 have h96 := a0j N6 h9d
 have h66 := a0j N6 h6d
 have EX6 := a0b EXd N6
 obtain ⟨yy0, yy1, yy2, yf0, yf1, yf2⟩ := in3 h96
 obtain ⟨w4, hw4, K9, K6, ⟨T1, Z1, ⟨z0', z1', z2', z3', z4', z5'⟩, ⟨en', B4⟩, ⟨er', B5⟩, F4, F5⟩, hlow⟩ := put9 h96 h66 u96 ((sfX.out.sg rz).on EX6) (by omega) (by omega) (by omega) v
 obtain ⟨r0, r1, r2, _, _, _⟩ := in3 K9
 have k1 := (a1c K6).2.1
 have E4 := hlow _ _ EX6 (by omega)
 obtain ⟨w5, hw5, T5, Z5⟩ := reg5 (a := a) gF T1 Z1 v
 go_wp2
 go_end0
 exact ⟨rfl, w4, E4, by rw [← hw5]⟩
theorem c4h (hB : SB B F fc k fb off nf cf mn fn pc ib ioff il ic g rn gc op (a : Nat) (b : Nat) (rc : Nat) st W w1 X) (hop1 : 20 < op) (hop2 : op < 30) (la : a < rn) (lb : b < rn) (lc : rc < rn) (rx : a1m X g (b * 3) x) (ry : a1m X g (rc * 3) y) (rz : RgA X g a z) (hcall : ∀ u, Below X.heap.size X u → Calls Tryz.prog 55 #[.int .i64 (op - 20), x.v, y.v] u fun E W' => E = .returned (.tuple #[v.v, .int .i64 e]) ∧ Below u.heap.size u W') (he : (e != 0) = true) :
  Calls Tryz.prog 34 #[.agg #[.slice (some ⟨fb, off, none⟩) nf cf, .int .i64 mn], .pointer (some ⟨B, 0, none⟩)] W (NoQ X B e) := by
 obtain ⟨w2, wa, w3, H⟩ := hB.s9
 obtain ⟨hw1, hX, y3, f3, s0, s1, sf, hk, hfn, hpl, hpm, hrm, gF⟩ := hB
 have sfX : Hid _ := sf
 obtain ⟨c0, t0, t1, t3, z1, m0, m1, e3, o0, o1, o2, o3, _, _, _⟩ := sf
 obtain ⟨_, hw2, hwa, hw3, E2, EX, g6, h6, h9a, h9, ⟨lB, lF, lC, lfb, lib, l6, l9⟩, ⟨n1, n2, n3, n4, n5, u69, u96⟩⟩ := H
 go_enter Tryz.func34, Tryz.ntmps34
 go_wp2
 go_region
 clear c0 t0 t1 t3 z1 m0 m1 e3 o0 o1 o2 o3 n1 n2 n3 n4 n5 y3 f3
 try rw [hw2]
 clear hw2
 obtain ⟨c0, t0, t1, t3, z1, m0, m1, _, _, _, _, _, ⟨en, b4⟩, ⟨er, b5⟩, bf⟩ := sfX.out.on E2
 obtain ⟨p0, p1, p2, p3⟩ := a1c g6
 obtain ⟨q0, q1, q2, q3⟩ := a1c h6
 obtain ⟨xa0, xa1, xa2, xaf0, xaf1, xaf2⟩ := in3 h9a
 obtain ⟨x0, x1, x2, xf0, xf1, xf2⟩ := in3 h9
 have lg := a0w rz.c0
 obtain ⟨wb, wc, hwb, hwc, h12a, h12, Ec⟩ := c4e w3
 obtain ⟨xb0, xb1, xb2, xbf0, xbf1, xbf2⟩ := in3 h12a
 obtain ⟨xc0, xc1, xc2, xcf0, xcf1, xcf2⟩ := in3 h12
 have h6c := a0j Ec h6
 have h9c := a0j Ec h9
 have EXc := a0b EX Ec
 obtain ⟨qc0, qc1, qc2, qc3⟩ := a1c h6c
 obtain ⟨y0, y1, y2⟩ := ry.below EXc (a0w ry.k)
 obtain ⟨wd, hwd⟩ := exq (put3 wc w3.heap.size y)
 have h12d : wd.heap[w3.heap.size]? = some (bx y) := by rw [← hwd]; exact a0o y h12
 have Ed : Below w3.heap.size w3 wd := by rw [← hwd]; exact a7x Ec (Nat.le_refl _) _ _ _
 unfold put3 at hwd
 obtain ⟨xd0, xd1, xd2, _, _, _⟩ := in3 h12d
 have h6d := a0j Ed h6
 have h9d := a0j Ed h9
 have EXd := a0b EX Ed
 have qd0 := a0a (i := 0) h6d rfl
 have qd2 := a0a (i := 2) h6d rfl
 obtain ⟨v0, v1, v2⟩ := rx.below EXd (a0w rx.k)
 have w69 : ¬ w3.heap.size = w2.heap.size := by omega
 have w96 : ¬ w2.heap.size = w3.heap.size := by omega
 have hw20 : IntKind.i64.wrap (op - 20) = op - 20 := IntWalk.i64_in _ ⟨by omega, by omega⟩
 replace hcall : Hid _ := hcall
 have hS : ∀ u, Below wd.heap.size wd u → u.cell? ⟨X.heap.size, 0, none⟩ = some (.int .i64 op) ∧ u.cell? ⟨X.heap.size, 2, none⟩ = some (.int .i64 (b : Nat)) ∧ u.cell? ⟨g, b * 3, none⟩ = some (.int .i64 x.k) ∧ u.cell? ⟨g, b * 3 + 1, none⟩ = some (.int .i64 x.n) ∧ u.cell? ⟨g, b * 3 + 2, none⟩ = some (.string x.s) ∧ u.cell? ⟨w3.heap.size, 0, none⟩ = some (.int .i64 y.k) ∧ u.cell? ⟨w3.heap.size, 1, none⟩ = some (.int .i64 y.n) ∧ u.cell? ⟨w3.heap.size, 2, none⟩ = some (.string y.s) := fun u hu => ⟨a0v hu qd0, a0v hu qd2, a0v hu v0, a0v hu v1, a0v hu v2, a0v hu xd0, a0v hu xd1, a0v hu xd2⟩
 replace hS : Hid _ := hS
 have hN : ∀ u, Below wd.heap.size wd u → u.heap[w2.heap.size]? = some (bx nilV) := fun u hu => a0j hu h9d
 replace hN : Hid _ := hN
 have v69 : ¬ g = w2.heap.size := by omega
 have v96 : ¬ w2.heap.size = g := by omega
 replace rz : Hid _ := rz
 go_wp2
 go_region_held3 (fun u => u.cell? ⟨X.heap.size, 0, none⟩ = some (.int .i64 op) ∧ u.cell? ⟨X.heap.size, 2, none⟩ = some (.int .i64 (b : Nat)) ∧ u.cell? ⟨g, b * 3, none⟩ = some (.int .i64 x.k) ∧ u.cell? ⟨g, b * 3 + 1, none⟩ = some (.int .i64 x.n) ∧ u.cell? ⟨g, b * 3 + 2, none⟩ = some (.string x.s) ∧ u.cell? ⟨w3.heap.size, 0, none⟩ = some (.int .i64 y.k) ∧ u.cell? ⟨w3.heap.size, 1, none⟩ = some (.int .i64 y.n) ∧ u.cell? ⟨w3.heap.size, 2, none⟩ = some (.string y.s)) (go_keep) (first | (go_at_call 55; refine (hcall.out _ (a0i EXd)).mono ?_; rintro E w6 ⟨rfl, hb6⟩; have N6 := a0b (a0i (Below.refl wd.heap.size wd)) hb6; obtain ⟨s0, s1, s2, s3, s4, s5, s6, s7⟩ := hS.out w6 N6; obtain ⟨j0, j1, j2, jf0, jf1, jf2⟩ := in3 (hN.out w6 N6)))
 replace rz := rz.out
 have h96 := a0j N6 h9d
 have h66 := a0j N6 h6d
 have EX6 := a0b EXd N6
 obtain ⟨yy0, yy1, yy2, yf0, yf1, yf2⟩ := in3 h96
 obtain ⟨w4, hw4, K9, K6, ⟨T1, Z1, ⟨z0', z1', z2', z3', z4', z5'⟩, ⟨en', B4⟩, ⟨er', B5⟩, F4, F5⟩, hlow⟩ := put9 h96 h66 u96 ((sfX.out.sg rz).on EX6) (by omega) (by omega) (by omega) v
 obtain ⟨r0, r1, r2, _, _, _⟩ := in3 K9
 have k1 := (a1c K6).2.1
 have E4 := hlow _ _ EX6 (by omega)
 go_wp2
 refine bodyPost_ret (results_none rfl _ _ _) rfl ?_
 exact ⟨rfl, w4, E4, rfl⟩
theorem c4i (hB : SB B F fc k fb off nf cf mn fn pc ib ioff il ic g rn gc op (a : Nat) (b : Nat) c st W w1 X) (hop1 : 29 < op) (hop2 : op < 32) (la : a < rn) (lb : b < rn) (rx : a1m X g (b * 3) x) (rz : RgA X g a z) (hcall : ∀ u, Below X.heap.size X u → Calls Tryz.prog 55 #[.int .i64 (op - 20), x.v, nilV.v] u fun E W' => E = .returned (.tuple #[v.v, .int .i64 0]) ∧ Below u.heap.size u W') :
  Calls Tryz.prog 34 #[.agg #[.slice (some ⟨fb, off, none⟩) nf cf, .int .i64 mn], .pointer (some ⟨B, 0, none⟩)] W (OkQ X g a F k ((pc : Int) + 1) v) := by
 obtain ⟨w2, wa, w3, H⟩ := hB.s9
 obtain ⟨hw1, hX, y3, f3, s0, s1, sf, hk, hfn, hpl, hpm, hrm, gF⟩ := hB
 have sfX : Hid _ := sf
 obtain ⟨c0, t0, t1, t3, z1, m0, m1, e3, o0, o1, o2, o3, _, _, _⟩ := sf
 obtain ⟨_, hw2, hwa, hw3, E2, EX, g6, h6, h9a, h9, ⟨lB, lF, lC, lfb, lib, l6, l9⟩, ⟨n1, n2, n3, n4, n5, u69, u96⟩⟩ := H
 go_enter Tryz.func34, Tryz.ntmps34
 go_wp2
 go_region
 clear c0 t0 t1 t3 z1 m0 m1 e3 o0 o1 o2 o3 n1 n2 n3 n4 n5 y3 f3
 try rw [hw2]
 clear hw2
 obtain ⟨c0, t0, t1, t3, z1, m0, m1, _, _, _, _, _, ⟨en, b4⟩, ⟨er, b5⟩, bf⟩ := sfX.out.on E2
 obtain ⟨p0, p1, p2, p3⟩ := a1c g6
 obtain ⟨q0, q1, q2, q3⟩ := a1c h6
 obtain ⟨xa0, xa1, xa2, xaf0, xaf1, xaf2⟩ := in3 h9a
 obtain ⟨x0, x1, x2, xf0, xf1, xf2⟩ := in3 h9
 have lg := a0w rz.c0
 obtain ⟨wb, wc, hwb, hwc, h12a, h12, Ec⟩ := c4e w3
 obtain ⟨xb0, xb1, xb2, xbf0, xbf1, xbf2⟩ := in3 h12a
 obtain ⟨xc0, xc1, xc2, xcf0, xcf1, xcf2⟩ := in3 h12
 have h6c := a0j Ec h6
 have h9c := a0j Ec h9
 have EXc := a0b EX Ec
 obtain ⟨qc0, qc1, qc2, qc3⟩ := a1c h6c
 clear xc0 xc1 xc2
 have xc0 : wc.cell? ⟨w3.heap.size, 0, none⟩ = some (.int .i64 0) := a0a h12 rfl
 have xc1 : wc.cell? ⟨w3.heap.size, 1, none⟩ = some (.int .i64 0) := a0a h12 rfl
 have xc2 : wc.cell? ⟨w3.heap.size, 2, none⟩ = some (.string ⟨#[]⟩) := a0a h12 rfl
 obtain ⟨v0, v1, v2⟩ := rx.below EXc (a0w rx.k)
 have w69 : ¬ w3.heap.size = w2.heap.size := by omega
 have w96 : ¬ w2.heap.size = w3.heap.size := by omega
 have hw20 : IntKind.i64.wrap (op - 20) = op - 20 := IntWalk.i64_in _ ⟨by omega, by omega⟩
 replace hcall : Hid _ := hcall
 have hS : ∀ u, Below wc.heap.size wc u → u.cell? ⟨X.heap.size, 0, none⟩ = some (.int .i64 op) ∧ u.cell? ⟨X.heap.size, 2, none⟩ = some (.int .i64 (b : Nat)) ∧ u.cell? ⟨g, b * 3, none⟩ = some (.int .i64 x.k) ∧ u.cell? ⟨g, b * 3 + 1, none⟩ = some (.int .i64 x.n) ∧ u.cell? ⟨g, b * 3 + 2, none⟩ = some (.string x.s) ∧ u.cell? ⟨w3.heap.size, 0, none⟩ = some (.int .i64 0) ∧ u.cell? ⟨w3.heap.size, 1, none⟩ = some (.int .i64 0) ∧ u.cell? ⟨w3.heap.size, 2, none⟩ = some (.string ⟨#[]⟩) := fun u hu => ⟨a0v hu qc0, a0v hu qc2, a0v hu v0, a0v hu v1, a0v hu v2, a0v hu xc0, a0v hu xc1, a0v hu xc2⟩
 replace hS : Hid _ := hS
 have hN : ∀ u, Below wc.heap.size wc u → u.heap[w2.heap.size]? = some (bx nilV) := fun u hu => a0j hu h9c
 replace hN : Hid _ := hN
 have v69 : ¬ g = w2.heap.size := by omega
 have v96 : ¬ w2.heap.size = g := by omega
 replace rz : Hid _ := rz
 go_wp2
 go_region_held3 (fun u => u.cell? ⟨X.heap.size, 0, none⟩ = some (.int .i64 op) ∧ u.cell? ⟨X.heap.size, 2, none⟩ = some (.int .i64 (b : Nat)) ∧ u.cell? ⟨g, b * 3, none⟩ = some (.int .i64 x.k) ∧ u.cell? ⟨g, b * 3 + 1, none⟩ = some (.int .i64 x.n) ∧ u.cell? ⟨g, b * 3 + 2, none⟩ = some (.string x.s) ∧ u.cell? ⟨w3.heap.size, 0, none⟩ = some (.int .i64 0) ∧ u.cell? ⟨w3.heap.size, 1, none⟩ = some (.int .i64 0) ∧ u.cell? ⟨w3.heap.size, 2, none⟩ = some (.string ⟨#[]⟩)) (go_keep) (first | (go_at_call 55; refine (hcall.out _ (a0i EXc)).mono ?_; rintro E w6 ⟨rfl, hb6⟩; have N6 := a0b (a0i (Below.refl wc.heap.size wc)) hb6; obtain ⟨s0, s1, s2, s3, s4, s5, s6, s7⟩ := hS.out w6 N6; obtain ⟨j0, j1, j2, jf0, jf1, jf2⟩ := in3 (hN.out w6 N6)))
 replace rz := rz.out
 have h96 := a0j N6 h9c
 have h66 := a0j N6 h6c
 have EX6 := a0b EXc N6
 obtain ⟨yy0, yy1, yy2, yf0, yf1, yf2⟩ := in3 h96
 obtain ⟨w4, hw4, K9, K6, ⟨T1, Z1, ⟨z0', z1', z2', z3', z4', z5'⟩, ⟨en', B4⟩, ⟨er', B5⟩, F4, F5⟩, hlow⟩ := put9 h96 h66 u96 ((sfX.out.sg rz).on EX6) (by omega) (by omega) (by omega) v
 obtain ⟨r0, r1, r2, _, _, _⟩ := in3 K9
 have k1 := (a1c K6).2.1
 have E4 := hlow _ _ EX6 (by omega)
 obtain ⟨w5, hw5, T5, Z5⟩ := reg5 (a := a) gF T1 Z1 v
 go_wp2
 go_end0
 exact ⟨rfl, w4, E4, by rw [← hw5]⟩
theorem c4j (hB : SB B F fc k fb off nf cf mn fn pc ib ioff il ic g rn gc op (a : Nat) (b : Nat) c st W w1 X) (hop1 : 29 < op) (hop2 : op < 32) (la : a < rn) (lb : b < rn) (rx : a1m X g (b * 3) x) (rz : RgA X g a z) (hcall : ∀ u, Below X.heap.size X u → Calls Tryz.prog 55 #[.int .i64 (op - 20), x.v, nilV.v] u fun E W' => E = .returned (.tuple #[v.v, .int .i64 e]) ∧ Below u.heap.size u W') (he : (e != 0) = true) :
  Calls Tryz.prog 34 #[.agg #[.slice (some ⟨fb, off, none⟩) nf cf, .int .i64 mn], .pointer (some ⟨B, 0, none⟩)] W (NoQ X B e) := by
 obtain ⟨w2, wa, w3, H⟩ := hB.s9
 obtain ⟨hw1, hX, y3, f3, s0, s1, sf, hk, hfn, hpl, hpm, hrm, gF⟩ := hB
 have sfX : Hid _ := sf
 obtain ⟨c0, t0, t1, t3, z1, m0, m1, e3, o0, o1, o2, o3, _, _, _⟩ := sf
 obtain ⟨_, hw2, hwa, hw3, E2, EX, g6, h6, h9a, h9, ⟨lB, lF, lC, lfb, lib, l6, l9⟩, ⟨n1, n2, n3, n4, n5, u69, u96⟩⟩ := H
 go_enter Tryz.func34, Tryz.ntmps34
 go_wp2
 go_region
 clear c0 t0 t1 t3 z1 m0 m1 e3 o0 o1 o2 o3 n1 n2 n3 n4 n5 y3 f3
 try rw [hw2]
 clear hw2
 obtain ⟨c0, t0, t1, t3, z1, m0, m1, _, _, _, _, _, ⟨en, b4⟩, ⟨er, b5⟩, bf⟩ := sfX.out.on E2
 obtain ⟨p0, p1, p2, p3⟩ := a1c g6
 obtain ⟨q0, q1, q2, q3⟩ := a1c h6
 obtain ⟨xa0, xa1, xa2, xaf0, xaf1, xaf2⟩ := in3 h9a
 obtain ⟨x0, x1, x2, xf0, xf1, xf2⟩ := in3 h9
 have lg := a0w rz.c0
 obtain ⟨wb, wc, hwb, hwc, h12a, h12, Ec⟩ := c4e w3
 obtain ⟨xb0, xb1, xb2, xbf0, xbf1, xbf2⟩ := in3 h12a
 obtain ⟨xc0, xc1, xc2, xcf0, xcf1, xcf2⟩ := in3 h12
 have h6c := a0j Ec h6
 have h9c := a0j Ec h9
 have EXc := a0b EX Ec
 obtain ⟨qc0, qc1, qc2, qc3⟩ := a1c h6c
 clear xc0 xc1 xc2
 have xc0 : wc.cell? ⟨w3.heap.size, 0, none⟩ = some (.int .i64 0) := a0a h12 rfl
 have xc1 : wc.cell? ⟨w3.heap.size, 1, none⟩ = some (.int .i64 0) := a0a h12 rfl
 have xc2 : wc.cell? ⟨w3.heap.size, 2, none⟩ = some (.string ⟨#[]⟩) := a0a h12 rfl
 obtain ⟨v0, v1, v2⟩ := rx.below EXc (a0w rx.k)
 have w69 : ¬ w3.heap.size = w2.heap.size := by omega
 have w96 : ¬ w2.heap.size = w3.heap.size := by omega
 have hw20 : IntKind.i64.wrap (op - 20) = op - 20 := IntWalk.i64_in _ ⟨by omega, by omega⟩
 replace hcall : Hid _ := hcall
 have hS : ∀ u, Below wc.heap.size wc u → u.cell? ⟨X.heap.size, 0, none⟩ = some (.int .i64 op) ∧ u.cell? ⟨X.heap.size, 2, none⟩ = some (.int .i64 (b : Nat)) ∧ u.cell? ⟨g, b * 3, none⟩ = some (.int .i64 x.k) ∧ u.cell? ⟨g, b * 3 + 1, none⟩ = some (.int .i64 x.n) ∧ u.cell? ⟨g, b * 3 + 2, none⟩ = some (.string x.s) ∧ u.cell? ⟨w3.heap.size, 0, none⟩ = some (.int .i64 0) ∧ u.cell? ⟨w3.heap.size, 1, none⟩ = some (.int .i64 0) ∧ u.cell? ⟨w3.heap.size, 2, none⟩ = some (.string ⟨#[]⟩) := fun u hu => ⟨a0v hu qc0, a0v hu qc2, a0v hu v0, a0v hu v1, a0v hu v2, a0v hu xc0, a0v hu xc1, a0v hu xc2⟩
 replace hS : Hid _ := hS
 have hN : ∀ u, Below wc.heap.size wc u → u.heap[w2.heap.size]? = some (bx nilV) := fun u hu => a0j hu h9c
 replace hN : Hid _ := hN
 have v69 : ¬ g = w2.heap.size := by omega
 have v96 : ¬ w2.heap.size = g := by omega
 replace rz : Hid _ := rz
 go_wp2
 go_region_held3 (fun u => u.cell? ⟨X.heap.size, 0, none⟩ = some (.int .i64 op) ∧ u.cell? ⟨X.heap.size, 2, none⟩ = some (.int .i64 (b : Nat)) ∧ u.cell? ⟨g, b * 3, none⟩ = some (.int .i64 x.k) ∧ u.cell? ⟨g, b * 3 + 1, none⟩ = some (.int .i64 x.n) ∧ u.cell? ⟨g, b * 3 + 2, none⟩ = some (.string x.s) ∧ u.cell? ⟨w3.heap.size, 0, none⟩ = some (.int .i64 0) ∧ u.cell? ⟨w3.heap.size, 1, none⟩ = some (.int .i64 0) ∧ u.cell? ⟨w3.heap.size, 2, none⟩ = some (.string ⟨#[]⟩)) (go_keep) (first | (go_at_call 55; refine (hcall.out _ (a0i EXc)).mono ?_; rintro E w6 ⟨rfl, hb6⟩; have N6 := a0b (a0i (Below.refl wc.heap.size wc)) hb6; obtain ⟨s0, s1, s2, s3, s4, s5, s6, s7⟩ := hS.out w6 N6; obtain ⟨j0, j1, j2, jf0, jf1, jf2⟩ := in3 (hN.out w6 N6)))
 replace rz := rz.out
 have h96 := a0j N6 h9c
 have h66 := a0j N6 h6c
 have EX6 := a0b EXc N6
 obtain ⟨yy0, yy1, yy2, yf0, yf1, yf2⟩ := in3 h96
 obtain ⟨w4, hw4, K9, K6, ⟨T1, Z1, ⟨z0', z1', z2', z3', z4', z5'⟩, ⟨en', B4⟩, ⟨er', B5⟩, F4, F5⟩, hlow⟩ := put9 h96 h66 u96 ((sfX.out.sg rz).on EX6) (by omega) (by omega) (by omega) v
 obtain ⟨r0, r1, r2, _, _, _⟩ := in3 K9
 have k1 := (a1c K6).2.1
 have E4 := hlow _ _ EX6 (by omega)
 go_wp2
 refine bodyPost_ret (results_none rfl _ _ _) rfl ?_
 exact ⟨rfl, w4, E4, rfl⟩
theorem b6y (hB : SB B F fc k fb off nf cf mn fn pc ib ioff il ic g rn gc 4 (a : Nat) (b : Nat) (rc : Nat) st W w1 X) (la : a < rn) (lb : b < rn) (lc : rc < rn) (rx : a1m X g (b * 3) x) (ry : a1m X g (rc * 3) y) (rz : RgA X g a z) (hcall : ∀ u, Below X.heap.size X u → Calls Tryz.prog 57 #[.pointer (some ⟨B, 0, none⟩), .int .i64 4, x.v, y.v] u fun E W' => E = .returned (.tuple #[v.v, .int .i64 0]) ∧ Below u.heap.size u W') :
  Calls Tryz.prog 34 #[.agg #[.slice (some ⟨fb, off, none⟩) nf cf, .int .i64 mn], .pointer (some ⟨B, 0, none⟩)] W (OkQ X g a F k ((pc : Int) + 1) v) := by
 obtain ⟨w2, wa, w3, H⟩ := hB.s9
 obtain ⟨hw1, hX, y3, f3, s0, s1, sf, hk, hfn, hpl, hpm, hrm, gF⟩ := hB
 have sfX : Hid _ := sf
 obtain ⟨c0, t0, t1, t3, z1, m0, m1, e3, o0, o1, o2, o3, _, _, _⟩ := sf
 obtain ⟨_, hw2, hwa, hw3, E2, EX, g6, h6, h9a, h9, ⟨lB, lF, lC, lfb, lib, l6, l9⟩, ⟨n1, n2, n3, n4, n5, u69, u96⟩⟩ := H
 go_enter Tryz.func34, Tryz.ntmps34
 go_wp2
 go_region
 clear c0 t0 t1 t3 z1 m0 m1 e3 o0 o1 o2 o3 n1 n2 n3 n4 n5 y3 f3
 try rw [hw2]
 clear hw2
 obtain ⟨c0, t0, t1, t3, z1, m0, m1, _, _, _, _, _, ⟨en, b4⟩, ⟨er, b5⟩, bf⟩ := sfX.out.on E2
 obtain ⟨p0, p1, p2, p3⟩ := a1c g6
 obtain ⟨q0, q1, q2, q3⟩ := a1c h6
 obtain ⟨xa0, xa1, xa2, xaf0, xaf1, xaf2⟩ := in3 h9a
 obtain ⟨x0, x1, x2, xf0, xf1, xf2⟩ := in3 h9
 have lg := a0w rz.c0
 obtain ⟨v0, v1, v2⟩ := rx.below EX (a0w rx.k)
 obtain ⟨y0, y1, y2⟩ := ry.below EX (a0w ry.k)
 replace hcall : Hid _ := hcall
 have hS : ∀ u, Below w3.heap.size w3 u → u.cell? ⟨X.heap.size, 0, none⟩ = some (.int .i64 4) ∧ u.cell? ⟨X.heap.size, 2, none⟩ = some (.int .i64 (b : Nat)) ∧ u.cell? ⟨X.heap.size, 3, none⟩ = some (.int .i64 (rc : Nat)) ∧ u.cell? ⟨g, b * 3, none⟩ = some (.int .i64 x.k) ∧ u.cell? ⟨g, b * 3 + 1, none⟩ = some (.int .i64 x.n) ∧ u.cell? ⟨g, b * 3 + 2, none⟩ = some (.string x.s) ∧ u.cell? ⟨g, rc * 3, none⟩ = some (.int .i64 y.k) ∧ u.cell? ⟨g, rc * 3 + 1, none⟩ = some (.int .i64 y.n) ∧ u.cell? ⟨g, rc * 3 + 2, none⟩ = some (.string y.s) := fun u hu => ⟨a0v hu q0, a0v hu q2, a0v hu q3, a0v hu v0, a0v hu v1, a0v hu v2, a0v hu y0, a0v hu y1, a0v hu y2⟩
 replace hS : Hid _ := hS
 have hN : ∀ u, Below w3.heap.size w3 u → u.heap[w2.heap.size]? = some (bx nilV) := fun u hu => a0j hu h9
 replace hN : Hid _ := hN
 have v69 : ¬ g = w2.heap.size := by omega
 have v96 : ¬ w2.heap.size = g := by omega
 replace rz : Hid _ := rz
 go_wp2
 go_region_held3 (fun u => u.cell? ⟨X.heap.size, 0, none⟩ = some (.int .i64 4) ∧ u.cell? ⟨X.heap.size, 2, none⟩ = some (.int .i64 (b : Nat)) ∧ u.cell? ⟨X.heap.size, 3, none⟩ = some (.int .i64 (rc : Nat)) ∧ u.cell? ⟨g, b * 3, none⟩ = some (.int .i64 x.k) ∧ u.cell? ⟨g, b * 3 + 1, none⟩ = some (.int .i64 x.n) ∧ u.cell? ⟨g, b * 3 + 2, none⟩ = some (.string x.s) ∧ u.cell? ⟨g, rc * 3, none⟩ = some (.int .i64 y.k) ∧ u.cell? ⟨g, rc * 3 + 1, none⟩ = some (.int .i64 y.n) ∧ u.cell? ⟨g, rc * 3 + 2, none⟩ = some (.string y.s)) (go_keep) (first | (go_at_call 57; refine (hcall.out _ (a0i EX)).mono ?_; rintro E w6 ⟨rfl, hb6⟩; have N6 := a0b (a0i (Below.refl w3.heap.size w3)) hb6; obtain ⟨s0, s1, s2, s3, s4, s5, s6, s7, s8⟩ := hS.out w6 N6; obtain ⟨j0, j1, j2, jf0, jf1, jf2⟩ := in3 (hN.out w6 N6)))
 replace rz := rz.out
 have h96 := a0j N6 h9
 have h66 := a0j N6 h6
 have EX6 := a0b EX N6
 obtain ⟨yy0, yy1, yy2, yf0, yf1, yf2⟩ := in3 h96
 obtain ⟨w4, hw4, K9, K6, ⟨T1, Z1, ⟨z0', z1', z2', z3', z4', z5'⟩, ⟨en', B4⟩, ⟨er', B5⟩, F4, F5⟩, hlow⟩ := put9 h96 h66 u96 ((sfX.out.sg rz).on EX6) (by omega) (by omega) (by omega) v
 obtain ⟨r0, r1, r2, _, _, _⟩ := in3 K9
 have k1 := (a1c K6).2.1
 have E4 := hlow _ _ EX6 (by omega)
 obtain ⟨w5, hw5, T5, Z5⟩ := reg5 (a := a) gF T1 Z1 v
 go_wp2
 go_end0
 exact ⟨rfl, w4, E4, by rw [← hw5]⟩
theorem b6z (hB : SB B F fc k fb off nf cf mn fn pc ib ioff il ic g rn gc 4 (a : Nat) (b : Nat) (rc : Nat) st W w1 X) (la : a < rn) (lb : b < rn) (lc : rc < rn) (rx : a1m X g (b * 3) x) (ry : a1m X g (rc * 3) y) (rz : RgA X g a z) (hcall : ∀ u, Below X.heap.size X u → Calls Tryz.prog 57 #[.pointer (some ⟨B, 0, none⟩), .int .i64 4, x.v, y.v] u fun E W' => E = .returned (.tuple #[v.v, .int .i64 e]) ∧ Below u.heap.size u W') (he : (e != 0) = true) :
  Calls Tryz.prog 34 #[.agg #[.slice (some ⟨fb, off, none⟩) nf cf, .int .i64 mn], .pointer (some ⟨B, 0, none⟩)] W (NoQ X B e) := by
 obtain ⟨w2, wa, w3, H⟩ := hB.s9
 obtain ⟨hw1, hX, y3, f3, s0, s1, sf, hk, hfn, hpl, hpm, hrm, gF⟩ := hB
 have sfX : Hid _ := sf
 obtain ⟨c0, t0, t1, t3, z1, m0, m1, e3, o0, o1, o2, o3, _, _, _⟩ := sf
 obtain ⟨_, hw2, hwa, hw3, E2, EX, g6, h6, h9a, h9, ⟨lB, lF, lC, lfb, lib, l6, l9⟩, ⟨n1, n2, n3, n4, n5, u69, u96⟩⟩ := H
 go_enter Tryz.func34, Tryz.ntmps34
 go_wp2
 go_region
 clear c0 t0 t1 t3 z1 m0 m1 e3 o0 o1 o2 o3 n1 n2 n3 n4 n5 y3 f3
 try rw [hw2]
 clear hw2
 obtain ⟨c0, t0, t1, t3, z1, m0, m1, _, _, _, _, _, ⟨en, b4⟩, ⟨er, b5⟩, bf⟩ := sfX.out.on E2
 obtain ⟨p0, p1, p2, p3⟩ := a1c g6
 obtain ⟨q0, q1, q2, q3⟩ := a1c h6
 obtain ⟨xa0, xa1, xa2, xaf0, xaf1, xaf2⟩ := in3 h9a
 obtain ⟨x0, x1, x2, xf0, xf1, xf2⟩ := in3 h9
 have lg := a0w rz.c0
 obtain ⟨v0, v1, v2⟩ := rx.below EX (a0w rx.k)
 obtain ⟨y0, y1, y2⟩ := ry.below EX (a0w ry.k)
 replace hcall : Hid _ := hcall
 have hS : ∀ u, Below w3.heap.size w3 u → u.cell? ⟨X.heap.size, 0, none⟩ = some (.int .i64 4) ∧ u.cell? ⟨X.heap.size, 2, none⟩ = some (.int .i64 (b : Nat)) ∧ u.cell? ⟨X.heap.size, 3, none⟩ = some (.int .i64 (rc : Nat)) ∧ u.cell? ⟨g, b * 3, none⟩ = some (.int .i64 x.k) ∧ u.cell? ⟨g, b * 3 + 1, none⟩ = some (.int .i64 x.n) ∧ u.cell? ⟨g, b * 3 + 2, none⟩ = some (.string x.s) ∧ u.cell? ⟨g, rc * 3, none⟩ = some (.int .i64 y.k) ∧ u.cell? ⟨g, rc * 3 + 1, none⟩ = some (.int .i64 y.n) ∧ u.cell? ⟨g, rc * 3 + 2, none⟩ = some (.string y.s) := fun u hu => ⟨a0v hu q0, a0v hu q2, a0v hu q3, a0v hu v0, a0v hu v1, a0v hu v2, a0v hu y0, a0v hu y1, a0v hu y2⟩
 replace hS : Hid _ := hS
 have hN : ∀ u, Below w3.heap.size w3 u → u.heap[w2.heap.size]? = some (bx nilV) := fun u hu => a0j hu h9
 replace hN : Hid _ := hN
 have v69 : ¬ g = w2.heap.size := by omega
 have v96 : ¬ w2.heap.size = g := by omega
 replace rz : Hid _ := rz
 go_wp2
 go_region_held3 (fun u => u.cell? ⟨X.heap.size, 0, none⟩ = some (.int .i64 4) ∧ u.cell? ⟨X.heap.size, 2, none⟩ = some (.int .i64 (b : Nat)) ∧ u.cell? ⟨X.heap.size, 3, none⟩ = some (.int .i64 (rc : Nat)) ∧ u.cell? ⟨g, b * 3, none⟩ = some (.int .i64 x.k) ∧ u.cell? ⟨g, b * 3 + 1, none⟩ = some (.int .i64 x.n) ∧ u.cell? ⟨g, b * 3 + 2, none⟩ = some (.string x.s) ∧ u.cell? ⟨g, rc * 3, none⟩ = some (.int .i64 y.k) ∧ u.cell? ⟨g, rc * 3 + 1, none⟩ = some (.int .i64 y.n) ∧ u.cell? ⟨g, rc * 3 + 2, none⟩ = some (.string y.s)) (go_keep) (first | (go_at_call 57; refine (hcall.out _ (a0i EX)).mono ?_; rintro E w6 ⟨rfl, hb6⟩; have N6 := a0b (a0i (Below.refl w3.heap.size w3)) hb6; obtain ⟨s0, s1, s2, s3, s4, s5, s6, s7, s8⟩ := hS.out w6 N6; obtain ⟨j0, j1, j2, jf0, jf1, jf2⟩ := in3 (hN.out w6 N6)))
 replace rz := rz.out
 have h96 := a0j N6 h9
 have h66 := a0j N6 h6
 have EX6 := a0b EX N6
 obtain ⟨yy0, yy1, yy2, yf0, yf1, yf2⟩ := in3 h96
 obtain ⟨w4, hw4, K9, K6, ⟨T1, Z1, ⟨z0', z1', z2', z3', z4', z5'⟩, ⟨en', B4⟩, ⟨er', B5⟩, F4, F5⟩, hlow⟩ := put9 h96 h66 u96 ((sfX.out.sg rz).on EX6) (by omega) (by omega) (by omega) v
 obtain ⟨r0, r1, r2, _, _, _⟩ := in3 K9
 have k1 := (a1c K6).2.1
 have E4 := hlow _ _ EX6 (by omega)
 go_wp2
 refine bodyPost_ret (results_none rfl _ _ _) rfl ?_
 exact ⟨rfl, w4, E4, rfl⟩
theorem b2u (hB : SB B F fc k fb off nf cf mn fn pc ib ioff il ic g rn gc 6 (a : Nat) (b : Nat) c st W w1 X) (la : a < rn) (lb : b < rn) (rx : a1m X g (b * 3) x) (rz : RgA X g a z) (hcall : ∀ u, Below X.heap.size X u → Calls Tryz.prog 57 #[.pointer (some ⟨B, 0, none⟩), .int .i64 6, x.v, nilV.v] u fun E W' => E = .returned (.tuple #[v.v, .int .i64 0]) ∧ Below u.heap.size u W') :
  Calls Tryz.prog 34 #[.agg #[.slice (some ⟨fb, off, none⟩) nf cf, .int .i64 mn], .pointer (some ⟨B, 0, none⟩)] W (OkQ X g a F k ((pc : Int) + 1) v) := by
 obtain ⟨w2, wa, w3, H⟩ := hB.s9
 obtain ⟨hw1, hX, y3, f3, s0, s1, sf, hk, hfn, hpl, hpm, hrm, gF⟩ := hB
 have sfX : Hid _ := sf
 obtain ⟨c0, t0, t1, t3, z1, m0, m1, e3, o0, o1, o2, o3, _, _, _⟩ := sf
 obtain ⟨_, hw2, hwa, hw3, E2, EX, g6, h6, h9a, h9, ⟨lB, lF, lC, lfb, lib, l6, l9⟩, ⟨n1, n2, n3, n4, n5, u69, u96⟩⟩ := H
 go_enter Tryz.func34, Tryz.ntmps34
 go_wp2
 go_region
 clear c0 t0 t1 t3 z1 m0 m1 e3 o0 o1 o2 o3 n1 n2 n3 n4 n5 y3 f3
 try rw [hw2]
 clear hw2
 obtain ⟨c0, t0, t1, t3, z1, m0, m1, _, _, _, _, _, ⟨en, b4⟩, ⟨er, b5⟩, bf⟩ := sfX.out.on E2
 obtain ⟨p0, p1, p2, p3⟩ := a1c g6
 obtain ⟨q0, q1, q2, q3⟩ := a1c h6
 obtain ⟨xa0, xa1, xa2, xaf0, xaf1, xaf2⟩ := in3 h9a
 obtain ⟨x0, x1, x2, xf0, xf1, xf2⟩ := in3 h9
 have lg := a0w rz.c0
 obtain ⟨v0, v1, v2⟩ := rx.below EX (a0w rx.k)
 replace hcall : Hid _ := hcall
 have hS : ∀ u, Below w3.heap.size w3 u → u.cell? ⟨X.heap.size, 0, none⟩ = some (.int .i64 6) ∧ u.cell? ⟨X.heap.size, 2, none⟩ = some (.int .i64 (b : Nat)) ∧ u.cell? ⟨g, b * 3, none⟩ = some (.int .i64 x.k) ∧ u.cell? ⟨g, b * 3 + 1, none⟩ = some (.int .i64 x.n) ∧ u.cell? ⟨g, b * 3 + 2, none⟩ = some (.string x.s) := fun u hu => ⟨a0v hu q0, a0v hu q2, a0v hu v0, a0v hu v1, a0v hu v2⟩
 replace hS : Hid _ := hS
 have hN : ∀ u, Below w3.heap.size w3 u → u.heap[w2.heap.size]? = some (bx nilV) := fun u hu => a0j hu h9
 replace hN : Hid _ := hN
 have v69 : ¬ g = w2.heap.size := by omega
 have v96 : ¬ w2.heap.size = g := by omega
 replace rz : Hid _ := rz
 go_wp2
 go_region_held3 (fun u => u.cell? ⟨X.heap.size, 0, none⟩ = some (.int .i64 6) ∧ u.cell? ⟨X.heap.size, 2, none⟩ = some (.int .i64 (b : Nat)) ∧ u.cell? ⟨g, b * 3, none⟩ = some (.int .i64 x.k) ∧ u.cell? ⟨g, b * 3 + 1, none⟩ = some (.int .i64 x.n) ∧ u.cell? ⟨g, b * 3 + 2, none⟩ = some (.string x.s)) (go_keep) (first | (go_at_call 57; refine (hcall.out _ (a0i EX)).mono ?_; rintro E w6 ⟨rfl, hb6⟩; have N6 := a0b (a0i (Below.refl w3.heap.size w3)) hb6; obtain ⟨s0, s1, s2, s3, s4⟩ := hS.out w6 N6; obtain ⟨j0, j1, j2, jf0, jf1, jf2⟩ := in3 (hN.out w6 N6)))
 replace rz := rz.out
 have h96 := a0j N6 h9
 have h66 := a0j N6 h6
 have EX6 := a0b EX N6
 obtain ⟨yy0, yy1, yy2, yf0, yf1, yf2⟩ := in3 h96
 obtain ⟨w4, hw4, K9, K6, ⟨T1, Z1, ⟨z0', z1', z2', z3', z4', z5'⟩, ⟨en', B4⟩, ⟨er', B5⟩, F4, F5⟩, hlow⟩ := put9 h96 h66 u96 ((sfX.out.sg rz).on EX6) (by omega) (by omega) (by omega) v
 obtain ⟨r0, r1, r2, _, _, _⟩ := in3 K9
 have k1 := (a1c K6).2.1
 have E4 := hlow _ _ EX6 (by omega)
 obtain ⟨w5, hw5, T5, Z5⟩ := reg5 (a := a) gF T1 Z1 v
 go_wp2
 go_end0
 exact ⟨rfl, w4, E4, by rw [← hw5]⟩
theorem b9q (hB : SB B F fc k fb off nf cf mn fn pc ib ioff il ic g rn gc 6 (a : Nat) (b : Nat) c st W w1 X) (la : a < rn) (lb : b < rn) (rx : a1m X g (b * 3) x) (rz : RgA X g a z) (hcall : ∀ u, Below X.heap.size X u → Calls Tryz.prog 57 #[.pointer (some ⟨B, 0, none⟩), .int .i64 6, x.v, nilV.v] u fun E W' => E = .returned (.tuple #[v.v, .int .i64 e]) ∧ Below u.heap.size u W') (he : (e != 0) = true) :
  Calls Tryz.prog 34 #[.agg #[.slice (some ⟨fb, off, none⟩) nf cf, .int .i64 mn], .pointer (some ⟨B, 0, none⟩)] W (NoQ X B e) := by
 obtain ⟨w2, wa, w3, H⟩ := hB.s9
 obtain ⟨hw1, hX, y3, f3, s0, s1, sf, hk, hfn, hpl, hpm, hrm, gF⟩ := hB
 have sfX : Hid _ := sf
 obtain ⟨c0, t0, t1, t3, z1, m0, m1, e3, o0, o1, o2, o3, _, _, _⟩ := sf
 obtain ⟨_, hw2, hwa, hw3, E2, EX, g6, h6, h9a, h9, ⟨lB, lF, lC, lfb, lib, l6, l9⟩, ⟨n1, n2, n3, n4, n5, u69, u96⟩⟩ := H
 go_enter Tryz.func34, Tryz.ntmps34
 go_wp2
 go_region
 clear c0 t0 t1 t3 z1 m0 m1 e3 o0 o1 o2 o3 n1 n2 n3 n4 n5 y3 f3
 try rw [hw2]
 clear hw2
 obtain ⟨c0, t0, t1, t3, z1, m0, m1, _, _, _, _, _, ⟨en, b4⟩, ⟨er, b5⟩, bf⟩ := sfX.out.on E2
 obtain ⟨p0, p1, p2, p3⟩ := a1c g6
 obtain ⟨q0, q1, q2, q3⟩ := a1c h6
 obtain ⟨xa0, xa1, xa2, xaf0, xaf1, xaf2⟩ := in3 h9a
 obtain ⟨x0, x1, x2, xf0, xf1, xf2⟩ := in3 h9
 have lg := a0w rz.c0
 obtain ⟨v0, v1, v2⟩ := rx.below EX (a0w rx.k)
 replace hcall : Hid _ := hcall
 have hS : ∀ u, Below w3.heap.size w3 u → u.cell? ⟨X.heap.size, 0, none⟩ = some (.int .i64 6) ∧ u.cell? ⟨X.heap.size, 2, none⟩ = some (.int .i64 (b : Nat)) ∧ u.cell? ⟨g, b * 3, none⟩ = some (.int .i64 x.k) ∧ u.cell? ⟨g, b * 3 + 1, none⟩ = some (.int .i64 x.n) ∧ u.cell? ⟨g, b * 3 + 2, none⟩ = some (.string x.s) := fun u hu => ⟨a0v hu q0, a0v hu q2, a0v hu v0, a0v hu v1, a0v hu v2⟩
 replace hS : Hid _ := hS
 have hN : ∀ u, Below w3.heap.size w3 u → u.heap[w2.heap.size]? = some (bx nilV) := fun u hu => a0j hu h9
 replace hN : Hid _ := hN
 have v69 : ¬ g = w2.heap.size := by omega
 have v96 : ¬ w2.heap.size = g := by omega
 replace rz : Hid _ := rz
 go_wp2
 go_region_held3 (fun u => u.cell? ⟨X.heap.size, 0, none⟩ = some (.int .i64 6) ∧ u.cell? ⟨X.heap.size, 2, none⟩ = some (.int .i64 (b : Nat)) ∧ u.cell? ⟨g, b * 3, none⟩ = some (.int .i64 x.k) ∧ u.cell? ⟨g, b * 3 + 1, none⟩ = some (.int .i64 x.n) ∧ u.cell? ⟨g, b * 3 + 2, none⟩ = some (.string x.s)) (go_keep) (first | (go_at_call 57; refine (hcall.out _ (a0i EX)).mono ?_; rintro E w6 ⟨rfl, hb6⟩; have N6 := a0b (a0i (Below.refl w3.heap.size w3)) hb6; obtain ⟨s0, s1, s2, s3, s4⟩ := hS.out w6 N6; obtain ⟨j0, j1, j2, jf0, jf1, jf2⟩ := in3 (hN.out w6 N6)))
 replace rz := rz.out
 have h96 := a0j N6 h9
 have h66 := a0j N6 h6
 have EX6 := a0b EX N6
 obtain ⟨yy0, yy1, yy2, yf0, yf1, yf2⟩ := in3 h96
 obtain ⟨w4, hw4, K9, K6, ⟨T1, Z1, ⟨z0', z1', z2', z3', z4', z5'⟩, ⟨en', B4⟩, ⟨er', B5⟩, F4, F5⟩, hlow⟩ := put9 h96 h66 u96 ((sfX.out.sg rz).on EX6) (by omega) (by omega) (by omega) v
 obtain ⟨r0, r1, r2, _, _, _⟩ := in3 K9
 have k1 := (a1c K6).2.1
 have E4 := hlow _ _ EX6 (by omega)
 go_wp2
 refine bodyPost_ret (results_none rfl _ _ _) rfl ?_
 exact ⟨rfl, w4, E4, rfl⟩
theorem b7a (hB : SB B F fc k fb off nf cf mn fn pc ib ioff il ic g rn gc 7 (a : Nat) (b : Nat) (rc : Nat) st W w1 X) (la : a < rn) (lb : b < rn) (lc : rc < rn) (rx : a1m X g (b * 3) x) (ry : a1m X g (rc * 3) y) (rz : RgA X g a z) (hcall : ∀ u, Below X.heap.size X u → Calls Tryz.prog 57 #[.pointer (some ⟨B, 0, none⟩), .int .i64 7, x.v, y.v] u fun E W' => E = .returned (.tuple #[v.v, .int .i64 0]) ∧ Below u.heap.size u W') :
  Calls Tryz.prog 34 #[.agg #[.slice (some ⟨fb, off, none⟩) nf cf, .int .i64 mn], .pointer (some ⟨B, 0, none⟩)] W (OkQ X g a F k ((pc : Int) + 1) v) := by
 obtain ⟨w2, wa, w3, H⟩ := hB.s9
 obtain ⟨hw1, hX, y3, f3, s0, s1, sf, hk, hfn, hpl, hpm, hrm, gF⟩ := hB
 have sfX : Hid _ := sf
 obtain ⟨c0, t0, t1, t3, z1, m0, m1, e3, o0, o1, o2, o3, _, _, _⟩ := sf
 obtain ⟨_, hw2, hwa, hw3, E2, EX, g6, h6, h9a, h9, ⟨lB, lF, lC, lfb, lib, l6, l9⟩, ⟨n1, n2, n3, n4, n5, u69, u96⟩⟩ := H
 go_enter Tryz.func34, Tryz.ntmps34
 go_wp2
 go_region
 clear c0 t0 t1 t3 z1 m0 m1 e3 o0 o1 o2 o3 n1 n2 n3 n4 n5 y3 f3
 try rw [hw2]
 clear hw2
 obtain ⟨c0, t0, t1, t3, z1, m0, m1, _, _, _, _, _, ⟨en, b4⟩, ⟨er, b5⟩, bf⟩ := sfX.out.on E2
 obtain ⟨p0, p1, p2, p3⟩ := a1c g6
 obtain ⟨q0, q1, q2, q3⟩ := a1c h6
 obtain ⟨xa0, xa1, xa2, xaf0, xaf1, xaf2⟩ := in3 h9a
 obtain ⟨x0, x1, x2, xf0, xf1, xf2⟩ := in3 h9
 have lg := a0w rz.c0
 obtain ⟨v0, v1, v2⟩ := rx.below EX (a0w rx.k)
 obtain ⟨y0, y1, y2⟩ := ry.below EX (a0w ry.k)
 replace hcall : Hid _ := hcall
 have hS : ∀ u, Below w3.heap.size w3 u → u.cell? ⟨X.heap.size, 0, none⟩ = some (.int .i64 7) ∧ u.cell? ⟨X.heap.size, 2, none⟩ = some (.int .i64 (b : Nat)) ∧ u.cell? ⟨X.heap.size, 3, none⟩ = some (.int .i64 (rc : Nat)) ∧ u.cell? ⟨g, b * 3, none⟩ = some (.int .i64 x.k) ∧ u.cell? ⟨g, b * 3 + 1, none⟩ = some (.int .i64 x.n) ∧ u.cell? ⟨g, b * 3 + 2, none⟩ = some (.string x.s) ∧ u.cell? ⟨g, rc * 3, none⟩ = some (.int .i64 y.k) ∧ u.cell? ⟨g, rc * 3 + 1, none⟩ = some (.int .i64 y.n) ∧ u.cell? ⟨g, rc * 3 + 2, none⟩ = some (.string y.s) := fun u hu => ⟨a0v hu q0, a0v hu q2, a0v hu q3, a0v hu v0, a0v hu v1, a0v hu v2, a0v hu y0, a0v hu y1, a0v hu y2⟩
 replace hS : Hid _ := hS
 have hN : ∀ u, Below w3.heap.size w3 u → u.heap[w2.heap.size]? = some (bx nilV) := fun u hu => a0j hu h9
 replace hN : Hid _ := hN
 have v69 : ¬ g = w2.heap.size := by omega
 have v96 : ¬ w2.heap.size = g := by omega
 replace rz : Hid _ := rz
 go_wp2
 go_region_held3 (fun u => u.cell? ⟨X.heap.size, 0, none⟩ = some (.int .i64 7) ∧ u.cell? ⟨X.heap.size, 2, none⟩ = some (.int .i64 (b : Nat)) ∧ u.cell? ⟨X.heap.size, 3, none⟩ = some (.int .i64 (rc : Nat)) ∧ u.cell? ⟨g, b * 3, none⟩ = some (.int .i64 x.k) ∧ u.cell? ⟨g, b * 3 + 1, none⟩ = some (.int .i64 x.n) ∧ u.cell? ⟨g, b * 3 + 2, none⟩ = some (.string x.s) ∧ u.cell? ⟨g, rc * 3, none⟩ = some (.int .i64 y.k) ∧ u.cell? ⟨g, rc * 3 + 1, none⟩ = some (.int .i64 y.n) ∧ u.cell? ⟨g, rc * 3 + 2, none⟩ = some (.string y.s)) (go_keep) (first | (go_at_call 57; refine (hcall.out _ (a0i EX)).mono ?_; rintro E w6 ⟨rfl, hb6⟩; have N6 := a0b (a0i (Below.refl w3.heap.size w3)) hb6; obtain ⟨s0, s1, s2, s3, s4, s5, s6, s7, s8⟩ := hS.out w6 N6; obtain ⟨j0, j1, j2, jf0, jf1, jf2⟩ := in3 (hN.out w6 N6)))
 replace rz := rz.out
 have h96 := a0j N6 h9
 have h66 := a0j N6 h6
 have EX6 := a0b EX N6
 obtain ⟨yy0, yy1, yy2, yf0, yf1, yf2⟩ := in3 h96
 obtain ⟨w4, hw4, K9, K6, ⟨T1, Z1, ⟨z0', z1', z2', z3', z4', z5'⟩, ⟨en', B4⟩, ⟨er', B5⟩, F4, F5⟩, hlow⟩ := put9 h96 h66 u96 ((sfX.out.sg rz).on EX6) (by omega) (by omega) (by omega) v
 obtain ⟨r0, r1, r2, _, _, _⟩ := in3 K9
 have k1 := (a1c K6).2.1
 have E4 := hlow _ _ EX6 (by omega)
 obtain ⟨w5, hw5, T5, Z5⟩ := reg5 (a := a) gF T1 Z1 v
 go_wp2
 go_end0
 exact ⟨rfl, w4, E4, by rw [← hw5]⟩
theorem b0q (hB : SB B F fc k fb off nf cf mn fn pc ib ioff il ic g rn gc 7 (a : Nat) (b : Nat) (rc : Nat) st W w1 X) (la : a < rn) (lb : b < rn) (lc : rc < rn) (rx : a1m X g (b * 3) x) (ry : a1m X g (rc * 3) y) (rz : RgA X g a z) (hcall : ∀ u, Below X.heap.size X u → Calls Tryz.prog 57 #[.pointer (some ⟨B, 0, none⟩), .int .i64 7, x.v, y.v] u fun E W' => E = .returned (.tuple #[v.v, .int .i64 e]) ∧ Below u.heap.size u W') (he : (e != 0) = true) :
  Calls Tryz.prog 34 #[.agg #[.slice (some ⟨fb, off, none⟩) nf cf, .int .i64 mn], .pointer (some ⟨B, 0, none⟩)] W (NoQ X B e) := by
 obtain ⟨w2, wa, w3, H⟩ := hB.s9
 obtain ⟨hw1, hX, y3, f3, s0, s1, sf, hk, hfn, hpl, hpm, hrm, gF⟩ := hB
 have sfX : Hid _ := sf
 obtain ⟨c0, t0, t1, t3, z1, m0, m1, e3, o0, o1, o2, o3, _, _, _⟩ := sf
 obtain ⟨_, hw2, hwa, hw3, E2, EX, g6, h6, h9a, h9, ⟨lB, lF, lC, lfb, lib, l6, l9⟩, ⟨n1, n2, n3, n4, n5, u69, u96⟩⟩ := H
 go_enter Tryz.func34, Tryz.ntmps34
 go_wp2
 go_region
 clear c0 t0 t1 t3 z1 m0 m1 e3 o0 o1 o2 o3 n1 n2 n3 n4 n5 y3 f3
 try rw [hw2]
 clear hw2
 obtain ⟨c0, t0, t1, t3, z1, m0, m1, _, _, _, _, _, ⟨en, b4⟩, ⟨er, b5⟩, bf⟩ := sfX.out.on E2
 obtain ⟨p0, p1, p2, p3⟩ := a1c g6
 obtain ⟨q0, q1, q2, q3⟩ := a1c h6
 obtain ⟨xa0, xa1, xa2, xaf0, xaf1, xaf2⟩ := in3 h9a
 obtain ⟨x0, x1, x2, xf0, xf1, xf2⟩ := in3 h9
 have lg := a0w rz.c0
 obtain ⟨v0, v1, v2⟩ := rx.below EX (a0w rx.k)
 obtain ⟨y0, y1, y2⟩ := ry.below EX (a0w ry.k)
 replace hcall : Hid _ := hcall
 have hS : ∀ u, Below w3.heap.size w3 u → u.cell? ⟨X.heap.size, 0, none⟩ = some (.int .i64 7) ∧ u.cell? ⟨X.heap.size, 2, none⟩ = some (.int .i64 (b : Nat)) ∧ u.cell? ⟨X.heap.size, 3, none⟩ = some (.int .i64 (rc : Nat)) ∧ u.cell? ⟨g, b * 3, none⟩ = some (.int .i64 x.k) ∧ u.cell? ⟨g, b * 3 + 1, none⟩ = some (.int .i64 x.n) ∧ u.cell? ⟨g, b * 3 + 2, none⟩ = some (.string x.s) ∧ u.cell? ⟨g, rc * 3, none⟩ = some (.int .i64 y.k) ∧ u.cell? ⟨g, rc * 3 + 1, none⟩ = some (.int .i64 y.n) ∧ u.cell? ⟨g, rc * 3 + 2, none⟩ = some (.string y.s) := fun u hu => ⟨a0v hu q0, a0v hu q2, a0v hu q3, a0v hu v0, a0v hu v1, a0v hu v2, a0v hu y0, a0v hu y1, a0v hu y2⟩
 replace hS : Hid _ := hS
 have hN : ∀ u, Below w3.heap.size w3 u → u.heap[w2.heap.size]? = some (bx nilV) := fun u hu => a0j hu h9
 replace hN : Hid _ := hN
 have v69 : ¬ g = w2.heap.size := by omega
 have v96 : ¬ w2.heap.size = g := by omega
 replace rz : Hid _ := rz
 go_wp2
 go_region_held3 (fun u => u.cell? ⟨X.heap.size, 0, none⟩ = some (.int .i64 7) ∧ u.cell? ⟨X.heap.size, 2, none⟩ = some (.int .i64 (b : Nat)) ∧ u.cell? ⟨X.heap.size, 3, none⟩ = some (.int .i64 (rc : Nat)) ∧ u.cell? ⟨g, b * 3, none⟩ = some (.int .i64 x.k) ∧ u.cell? ⟨g, b * 3 + 1, none⟩ = some (.int .i64 x.n) ∧ u.cell? ⟨g, b * 3 + 2, none⟩ = some (.string x.s) ∧ u.cell? ⟨g, rc * 3, none⟩ = some (.int .i64 y.k) ∧ u.cell? ⟨g, rc * 3 + 1, none⟩ = some (.int .i64 y.n) ∧ u.cell? ⟨g, rc * 3 + 2, none⟩ = some (.string y.s)) (go_keep) (first | (go_at_call 57; refine (hcall.out _ (a0i EX)).mono ?_; rintro E w6 ⟨rfl, hb6⟩; have N6 := a0b (a0i (Below.refl w3.heap.size w3)) hb6; obtain ⟨s0, s1, s2, s3, s4, s5, s6, s7, s8⟩ := hS.out w6 N6; obtain ⟨j0, j1, j2, jf0, jf1, jf2⟩ := in3 (hN.out w6 N6)))
 replace rz := rz.out
 have h96 := a0j N6 h9
 have h66 := a0j N6 h6
 have EX6 := a0b EX N6
 obtain ⟨yy0, yy1, yy2, yf0, yf1, yf2⟩ := in3 h96
 obtain ⟨w4, hw4, K9, K6, ⟨T1, Z1, ⟨z0', z1', z2', z3', z4', z5'⟩, ⟨en', B4⟩, ⟨er', B5⟩, F4, F5⟩, hlow⟩ := put9 h96 h66 u96 ((sfX.out.sg rz).on EX6) (by omega) (by omega) (by omega) v
 obtain ⟨r0, r1, r2, _, _, _⟩ := in3 K9
 have k1 := (a1c K6).2.1
 have E4 := hlow _ _ EX6 (by omega)
 go_wp2
 refine bodyPost_ret (results_none rfl _ _ _) rfl ?_
 exact ⟨rfl, w4, E4, rfl⟩
theorem b9r {b : Int} (hB : SB B F fc k fb off nf cf mn fn pc ib ioff il ic g rn gc 3 (a : Nat) b c st W w1 X) (la : a < rn) (rz : RgA X g a z) (QQ : World → World → Prop) (hcall : ∀ u, Below X.heap.size X u → Calls Tryz.prog 56 #[.pointer (some ⟨B, 0, none⟩)] u fun E W' => E = .returned (.tuple #[v.v, .int .i64 0]) ∧ QQ u W') (hQ : ∀ u W', Below X.heap.size X u → QQ u W' → SG B F k g a pc z W' ∧ ∀ b ob, X.heap.size ≤ b → u.heap[b]? = some ob → W'.heap[b]? = some ob) :
  Calls Tryz.prog 34 #[.agg #[.slice (some ⟨fb, off, none⟩) nf cf, .int .i64 mn], .pointer (some ⟨B, 0, none⟩)] W fun E W' => E = .returned (.tuple #[]) ∧ ∃ u V b9, Below X.heap.size X u ∧ QQ u V ∧ X.heap.size ≤ b9 ∧ u.heap[b9]? = some (bx nilV) ∧ W' = ((((put3 V b9 v).setCell ⟨g, a * 3, none⟩ (.int .i64 v.k)).setCell ⟨g, a * 3 + 1, none⟩ (.int .i64 v.n)).setCell ⟨g, a * 3 + 2, none⟩ (.string v.s)).setCell ⟨F, k * 4 + 1, none⟩ (.int .i64 ((pc : Int) + 1)) := by
 obtain ⟨w2, wa, w3, H⟩ := hB.s9
 obtain ⟨hw1, hX, y3, f3, s0, s1, sf, hk, hfn, hpl, hpm, hrm, gF⟩ := hB
 have sfX : Hid _ := sf
 obtain ⟨c0, t0, t1, t3, z1, m0, m1, e3, o0, o1, o2, o3, _, _, _⟩ := sf
 obtain ⟨_, hw2, hwa, hw3, E2, EX, g6, h6, h9a, h9, ⟨lB, lF, lC, lfb, lib, l6, l9⟩, ⟨n1, n2, n3, n4, n5, u69, u96⟩⟩ := H
 go_enter Tryz.func34, Tryz.ntmps34
 go_wp2
 go_region
 clear c0 t0 t1 t3 z1 m0 m1 e3 o0 o1 o2 o3 n1 n2 n3 n4 n5 y3 f3
 try rw [hw2]
 clear hw2
 obtain ⟨c0, t0, t1, t3, z1, m0, m1, _, _, _, _, _, ⟨en, b4⟩, ⟨er, b5⟩, bf⟩ := sfX.out.on E2
 obtain ⟨p0, p1, p2, p3⟩ := a1c g6
 obtain ⟨q0, q1, q2, q3⟩ := a1c h6
 obtain ⟨xa0, xa1, xa2, xaf0, xaf1, xaf2⟩ := in3 h9a
 obtain ⟨x0, x1, x2, xf0, xf1, xf2⟩ := in3 h9
 have lg := a0w rz.c0
 replace hcall : Hid _ := hcall
 replace hQ : Hid _ := hQ
 go_wp2_with (go_at_call 56; refine (hcall.out _ EX).mono ?_; rintro E w6 ⟨rfl, hq6⟩; refine Hid.out ?_)
 refine Lib.hid ?_
 obtain ⟨hsg6, hk6⟩ := hQ.out _ _ EX hq6
 have h96 := hk6 _ _ (by omega) h9
 have h66 := hk6 _ _ (Nat.le_refl _) h6
 replace hk6 : Hid _ := hk6
 obtain ⟨yy0, yy1, yy2, yf0, yf1, yf2⟩ := in3 h96
 obtain ⟨w4, hw4, K9, K6, ⟨T1, Z1, ⟨z0', z1', z2', z3', z4', z5'⟩, ⟨en', B4⟩, ⟨er', B5⟩, F4, F5⟩, hlow⟩ := put9 h96 h66 u96 hsg6 (by omega) (by omega) (by omega) v
 obtain ⟨r0, r1, r2, _, _, _⟩ := in3 K9
 have k1 := (a1c K6).2.1
 obtain ⟨w5, hw5, T5, Z5⟩ := reg5 (a := a) gF T1 Z1 v
 have hpp : put3 w6 w2.heap.size v = w4 := hw4
 replace hpp : Hid _ := hpp
 go_wp2
 go_end0
 exact ⟨rfl, w3, w6, w2.heap.size, EX, hq6, by omega, h9, by rw [hpp.out, ← hw5]⟩
theorem b9s {b : Int} (hB : SB B F fc k fb off nf cf mn fn pc ib ioff il ic g rn gc 3 (a : Nat) b c st W w1 X) (rz : RgA X g a z) (hcall : ∀ u, Below X.heap.size X u → Calls Tryz.prog 56 #[.pointer (some ⟨B, 0, none⟩)] u fun E W' => E = .returned (.tuple #[v.v, .int .i64 e]) ∧ Below u.heap.size u W') (he : (e != 0) = true) :
  Calls Tryz.prog 34 #[.agg #[.slice (some ⟨fb, off, none⟩) nf cf, .int .i64 mn], .pointer (some ⟨B, 0, none⟩)] W (NoQ X B e) := by
 obtain ⟨w2, wa, w3, H⟩ := hB.s9
 obtain ⟨hw1, hX, y3, f3, s0, s1, sf, hk, hfn, hpl, hpm, hrm, gF⟩ := hB
 have sfX : Hid _ := sf
 obtain ⟨c0, t0, t1, t3, z1, m0, m1, e3, o0, o1, o2, o3, _, _, _⟩ := sf
 obtain ⟨_, hw2, hwa, hw3, E2, EX, g6, h6, h9a, h9, ⟨lB, lF, lC, lfb, lib, l6, l9⟩, ⟨n1, n2, n3, n4, n5, u69, u96⟩⟩ := H
 go_enter Tryz.func34, Tryz.ntmps34
 go_wp2
 go_region
 clear c0 t0 t1 t3 z1 m0 m1 e3 o0 o1 o2 o3 n1 n2 n3 n4 n5 y3 f3
 try rw [hw2]
 clear hw2
 obtain ⟨c0, t0, t1, t3, z1, m0, m1, _, _, _, _, _, ⟨en, b4⟩, ⟨er, b5⟩, bf⟩ := sfX.out.on E2
 obtain ⟨p0, p1, p2, p3⟩ := a1c g6
 obtain ⟨q0, q1, q2, q3⟩ := a1c h6
 obtain ⟨xa0, xa1, xa2, xaf0, xaf1, xaf2⟩ := in3 h9a
 obtain ⟨x0, x1, x2, xf0, xf1, xf2⟩ := in3 h9
 have lg := a0w rz.c0
 replace hcall : Hid _ := hcall
 go_wp2_with (go_at_call 56; refine (hcall.out _ EX).mono ?_; rintro E w6 ⟨rfl, hb6⟩; refine Hid.out ?_)
 refine Lib.hid ?_
 have h96 := a0j hb6 h9
 have h66 := a0j hb6 h6
 have EX6 := a0b EX hb6
 obtain ⟨yy0, yy1, yy2, yf0, yf1, yf2⟩ := in3 h96
 obtain ⟨w4, hw4, K9, K6, ⟨T1, Z1, ⟨z0', z1', z2', z3', z4', z5'⟩, ⟨en', B4⟩, ⟨er', B5⟩, F4, F5⟩, hlow⟩ := put9 h96 h66 u96 ((sfX.out.sg rz).on EX6) (by omega) (by omega) (by omega) v
 obtain ⟨r0, r1, r2, _, _, _⟩ := in3 K9
 have k1 := (a1c K6).2.1
 have E4 := hlow _ _ EX6 (by omega)
 go_wp2
 refine bodyPost_ret (results_none rfl _ _ _) rfl ?_
 exact ⟨rfl, w4, E4, rfl⟩
theorem a7y {a b : Int} (hB : SB B F fc k fb off nf cf mn fn pc ib ioff il ic g rn gc op a b c st W w1 X) (h20 : op ≤ 20) (h1 : (op == 1) = false) (h2 : (op == 2) = false) (h3 : (op == 3) = false) (h4 : (op == 4) = false) (h7 : (op == 7) = false) (h6' : (op == 6) = false) (he : (e != 0) = true) (hcall : ∀ u, Below X.heap.size X u → Calls Tryz.prog 58 #[.agg #[.slice (some ⟨fb, off, none⟩) nf cf, .int .i64 mn], .pointer (some ⟨B, 0, none⟩), .agg #[.int .i64 op, .int .i64 a, .int .i64 b, .int .i64 c], .int .i64 ((pc : Int) + 1)] u fun E W' => E = .returned (.tuple #[.int .i64 nx, .int .i64 e]) ∧ Below u.heap.size u W') :
  Calls Tryz.prog 34 #[.agg #[.slice (some ⟨fb, off, none⟩) nf cf, .int .i64 mn], .pointer (some ⟨B, 0, none⟩)] W (NoQ X B e) := by
 obtain ⟨w2, wa, w3, H⟩ := hB.s9
 obtain ⟨hw1, hX, y3, f3, s0, s1, sf, hk, hfn, hpl, hpm, hrm, gF⟩ := hB
 have sfX : Hid _ := sf
 obtain ⟨c0, t0, t1, t3, z1, m0, m1, e3, o0, o1, o2, o3, _, _, _⟩ := sf
 obtain ⟨_, hw2, hwa, hw3, E2, EX, g6, h6, h9a, h9, ⟨lB, lF, lC, lfb, lib, l6, l9⟩, ⟨n1, n2, n3, n4, n5, u69, u96⟩⟩ := H
 go_enter Tryz.func34, Tryz.ntmps34
 go_wp2
 go_region
 clear c0 t0 t1 t3 z1 m0 m1 e3 o0 o1 o2 o3 n1 n2 n3 n4 n5 y3 f3
 try rw [hw2]
 clear hw2
 obtain ⟨c0, t0, t1, t3, z1, m0, m1, _, _, _, _, _, ⟨en, b4⟩, ⟨er, b5⟩, bf⟩ := sfX.out.on E2
 obtain ⟨p0, p1, p2, p3⟩ := a1c g6
 obtain ⟨q0, q1, q2, q3⟩ := a1c h6
 obtain ⟨xa0, xa1, xa2, xaf0, xaf1, xaf2⟩ := in3 h9a
 obtain ⟨x0, x1, x2, xf0, xf1, xf2⟩ := in3 h9
 replace hcall : Hid _ := hcall
 obtain ⟨_, _, _, _, _, M0, M1, _, _, _, _, _, _, _, _⟩ := sfX.out.on EX
 go_wp2_with (go_at_call 58; refine (hcall.out _ EX).mono ?_; rintro E w6 ⟨rfl, hq6⟩; refine Hid.out ?_)
 refine Lib.hid ?_
 have EX6 := a0b EX hq6
 obtain ⟨_, _, _, _, _, _, _, _, _, _, _, _, ⟨en', B4⟩, ⟨er', B5⟩, BF⟩ := sfX.out.on EX6
 have F4 := BF 4
 have F5 := BF 5
 clear BF
 go_wp2
 refine bodyPost_ret (results_none rfl _ _ _) rfl ?_
 exact ⟨rfl, w6, EX6, rfl⟩
theorem a6r {a b : Int} (hB : SB B F fc k fb off nf cf mn fn pc ib ioff il ic g rn gc op a b c st W w1 X) (h20 : op ≤ 20) (h1 : (op == 1) = false) (h2 : (op == 2) = false) (h3 : (op == 3) = false) (h4 : (op == 4) = false) (h7 : (op == 7) = false) (h6' : (op == 6) = false) (QQ : World → World → Prop) (hcall : ∀ u, Below X.heap.size X u → Calls Tryz.prog 58 #[.agg #[.slice (some ⟨fb, off, none⟩) nf cf, .int .i64 mn], .pointer (some ⟨B, 0, none⟩), .agg #[.int .i64 op, .int .i64 a, .int .i64 b, .int .i64 c], .int .i64 ((pc : Int) + 1)] u fun E W' => E = .returned (.tuple #[.int .i64 (-1), .int .i64 0]) ∧ QQ u W') :
  Calls Tryz.prog 34 #[.agg #[.slice (some ⟨fb, off, none⟩) nf cf, .int .i64 mn], .pointer (some ⟨B, 0, none⟩)] W fun E W' => E = .returned (.tuple #[]) ∧ ∃ u, Below X.heap.size X u ∧ QQ u W' := by
 obtain ⟨w2, wa, w3, H⟩ := hB.s9
 obtain ⟨hw1, hX, y3, f3, s0, s1, sf, hk, hfn, hpl, hpm, hrm, gF⟩ := hB
 have sfX : Hid _ := sf
 obtain ⟨c0, t0, t1, t3, z1, m0, m1, e3, o0, o1, o2, o3, _, _, _⟩ := sf
 obtain ⟨_, hw2, hwa, hw3, E2, EX, g6, h6, h9a, h9, ⟨lB, lF, lC, lfb, lib, l6, l9⟩, ⟨n1, n2, n3, n4, n5, u69, u96⟩⟩ := H
 go_enter Tryz.func34, Tryz.ntmps34
 go_wp2
 go_region
 clear c0 t0 t1 t3 z1 m0 m1 e3 o0 o1 o2 o3 n1 n2 n3 n4 n5 y3 f3
 try rw [hw2]
 clear hw2
 obtain ⟨c0, t0, t1, t3, z1, m0, m1, _, _, _, _, _, ⟨en, b4⟩, ⟨er, b5⟩, bf⟩ := sfX.out.on E2
 obtain ⟨p0, p1, p2, p3⟩ := a1c g6
 obtain ⟨q0, q1, q2, q3⟩ := a1c h6
 obtain ⟨xa0, xa1, xa2, xaf0, xaf1, xaf2⟩ := in3 h9a
 obtain ⟨x0, x1, x2, xf0, xf1, xf2⟩ := in3 h9
 replace hcall : Hid _ := hcall
 obtain ⟨_, _, _, _, _, M0, M1, _, _, _, _, _, _, _, _⟩ := sfX.out.on EX
 go_wp2_with (go_at_call 58; refine (hcall.out _ EX).mono ?_; rintro E w6 ⟨rfl, hq6⟩; refine Hid.out ?_)
 refine Lib.hid ?_
 go_wp2
 go_end0
 exact ⟨rfl, w3, EX, hq6⟩
theorem a5o {a b : Int} (hB : SB B F fc k fb off nf cf mn fn pc ib ioff il ic g rn gc op a b c st W w1 X) (h20 : op ≤ 20) (h1 : (op == 1) = false) (h2 : (op == 2) = false) (h3 : (op == 3) = false) (h4 : (op == 4) = false) (h7 : (op == 7) = false) (h6' : (op == 6) = false) (hnx : 0 ≤ nx) (QQ : World → World → Prop) (hQ : ∀ u W', Below X.heap.size X u → QQ u W' → (∃ pcx, W'.cell? ⟨F, k * 4 + 1, none⟩ = some (.int .i64 pcx)) ∧ W'.frozen? ⟨F, k * 4 + 1, none⟩ = false) (hcall : ∀ u, Below X.heap.size X u → Calls Tryz.prog 58 #[.agg #[.slice (some ⟨fb, off, none⟩) nf cf, .int .i64 mn], .pointer (some ⟨B, 0, none⟩), .agg #[.int .i64 op, .int .i64 a, .int .i64 b, .int .i64 c], .int .i64 ((pc : Int) + 1)] u fun E W' => E = .returned (.tuple #[.int .i64 nx, .int .i64 0]) ∧ QQ u W') :
  Calls Tryz.prog 34 #[.agg #[.slice (some ⟨fb, off, none⟩) nf cf, .int .i64 mn], .pointer (some ⟨B, 0, none⟩)] W fun E W' => E = .returned (.tuple #[]) ∧ ∃ u V, Below X.heap.size X u ∧ QQ u V ∧ W' = V.setCell ⟨F, k * 4 + 1, none⟩ (.int .i64 nx) := by
 obtain ⟨w2, wa, w3, H⟩ := hB.s9
 obtain ⟨hw1, hX, y3, f3, s0, s1, sf, hk, hfn, hpl, hpm, hrm, gF⟩ := hB
 have sfX : Hid _ := sf
 obtain ⟨c0, t0, t1, t3, z1, m0, m1, e3, o0, o1, o2, o3, _, _, _⟩ := sf
 obtain ⟨_, hw2, hwa, hw3, E2, EX, g6, h6, h9a, h9, ⟨lB, lF, lC, lfb, lib, l6, l9⟩, ⟨n1, n2, n3, n4, n5, u69, u96⟩⟩ := H
 go_enter Tryz.func34, Tryz.ntmps34
 go_wp2
 go_region
 clear c0 t0 t1 t3 z1 m0 m1 e3 o0 o1 o2 o3 n1 n2 n3 n4 n5 y3 f3
 try rw [hw2]
 clear hw2
 obtain ⟨c0, t0, t1, t3, z1, m0, m1, _, _, _, _, _, ⟨en, b4⟩, ⟨er, b5⟩, bf⟩ := sfX.out.on E2
 obtain ⟨p0, p1, p2, p3⟩ := a1c g6
 obtain ⟨q0, q1, q2, q3⟩ := a1c h6
 obtain ⟨xa0, xa1, xa2, xaf0, xaf1, xaf2⟩ := in3 h9a
 obtain ⟨x0, x1, x2, xf0, xf1, xf2⟩ := in3 h9
 replace hcall : Hid _ := hcall
 obtain ⟨_, _, _, _, _, M0, M1, _, _, _, _, _, _, _, _⟩ := sfX.out.on EX
 go_wp2_with (go_at_call 58; refine (hcall.out _ EX).mono ?_; rintro E w6 ⟨rfl, hq6⟩; refine Hid.out ?_)
 refine Lib.hid ?_
 obtain ⟨⟨pcx, T6⟩, Z6⟩ := hQ _ _ EX hq6
 replace hQ : Hid _ := hQ
 go_wp2
 go_end0
 exact ⟨rfl, w3, w6, EX, hq6, rfl⟩
end
end Go.Proofs.YthpgbienakcbeaaGreatDoor
