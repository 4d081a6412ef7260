/- The document's machine: a call begins. -/
import Derived.Test.YthpgbienakcbeaaGreatDoorS49
import Derived.Test.YthpgbienakcbeaaGreatDoorS24
namespace Go.Proofs.YthpgbienakcbeaaGreatDoor
open Go.RowKit Go
set_option maxRecDepth 100000
set_option maxHeartbeats 8000000
set_option linter.all false
variable {l : List Fw} {q : Fw} {F : Int → Vl → Vl → Vl × Int} {fs : List Fd} {main mn : Int} {ca : Option Addr} {cc : Nat}
section
variable [DecidableEq Vl]
section
variable {w0 : World} {p : Mp} {s : St} {W : World}
structure d5d (P : Prop) : Prop where
 out : P
theorem CI.drew' {w : World} {D gN r : Nat} {fr : Obj} {cs : List Vl} {V : World} (h : CI w D gN r fr cs V) : CI w D gN r fr cs V.drew := ⟨h.d, h.o.same rfl, a0i h.b⟩
theorem via {P Q : Prop} (h : d5d P → Q) (p : P) : Q := h ⟨p⟩
theorem c6t (h : Dc w0 p s W) (e : p.fw = l ++ [q]) (h40 : l.length + 1 < 40) (fb off nf cf : Nat) (mn nx : Int) (o : Od) (ho : o.op = 11) (ra rb rc : Nat) (hra : o.a = ra) (hrb : o.b = rb) (hrc : o.c = rc) (hbc : rb + rc < q.x.rs.length) (v : Vl) (hv : q.x.rs[rb]? = some v) (h5v : (v.k != 5) = false) (n : Nat) (hvn : v.n = n) (hn : n < nf) (ag : List Vl) (hag : (q.x.rs.drop (rb + 1)).take rc = ag) (pr r : Nat) (hpr : pr ≤ r) (hr : r ≤ 250) (d0 : W.cell? ⟨fb, off + n * 4, none⟩ = some (.int .i64 (pr : Nat))) (d1 : W.cell? ⟨fb, off + n * 4 + 1, none⟩ = some (.int .i64 (r : Nat))) :
  Calls Tryz.prog 58 #[PV (some ⟨fb, off, none⟩) nf cf mn, .pointer (some ⟨p.B, 0, none⟩), o.v, .int .i64 nx] W fun E W' => E = .returned (.tuple #[.int .i64 (-1), .int .i64 0]) ∧ ∃ p', p'.B = p.B ∧ p'.ap = p.ap ∧ Dc w0 p' { s with fr := l.map Fw.x ++ [{ q.x with pc := nx }] ++ [⟨n, 0, ra, a0x pr r ag⟩] } W' ∧ MK p.own W p'.own W' := by
 obtain ⟨ca, hca⟩ := exq (some (⟨fb, off, none⟩ : Addr))
 rw [hca]
 obtain ⟨cn, cc, hcn, hcc⟩ : ∃ cn cc, nf = cn ∧ cf = cc := ⟨_, _, rfl, rfl⟩
 rw [hcn, hcc]
 have hl : l.length ≤ 1000 := by omega
 have hA := OB.new W (.slice ca cn cc) mn o
 obtain ⟨w1, hw1⟩ := exq ((W.alloc (.cells #[.slice ca cn cc, .int .i64 mn] 24)).alloc (.cells #[.int .i64 o.op, .int .i64 o.a, .int .i64 o.b, .int .i64 o.c] 82))
 rw [hw1] at hA
 have h1 := h.on hA.b
 obtain ⟨c0, _⟩ := h1.cells
 obtain ⟨t0, t1, t2, t3, t4⟩ := h1.topCells e
 have hq : q ∈ p.fw := by rw [e]; simp
 have hrg := h1.rg q hq
 obtain ⟨v0, v1, v2⟩ : w1.cell? ⟨q.g, rb * 3, none⟩ = some (.int .i64 v.k) ∧ w1.cell? ⟨q.g, rb * 3 + 1, none⟩ = some (.int .i64 v.n) ∧ w1.cell? ⟨q.g, rb * 3 + 2, none⟩ = some (.string v.s) := by
  obtain ⟨y0, y1, y2⟩ := a2k hv
  exact ⟨(hrg.cell y0).1, (hrg.cell y1).1, (hrg.cell y2).1⟩
 have hlv : rb < q.x.rs.length := (List.getElem?_eq_some_iff.1 hv).1
 have hlen := h1.len.1
 rw [e, List.length_append, List.length_singleton] at hlen
 rw [← hlen] at c0
 obtain ⟨k, hk⟩ := exq (l.length)
 obtain ⟨rn, hrn⟩ := exq (q.x.rs.length)
 have hrm : rn ≤ 9223372036854775807 := by rw [← hrn]; exact a3f hrg.max
 rw [hk] at c0 t0 t1 t2 t3 t4 hl
 rw [hrn] at t3 hlv
 obtain ⟨b0, b1, b2, b3⟩ := four hA.o
 rw [hra] at b1
 rw [hrb] at b2
 rw [hrc] at b3
 have h5 : (o.op == 5) = false := by rw [ho]; rfl
 have h8 : (o.op == 8) = false := by rw [ho]; rfl
 have h10 : (o.op == 10) = false := by rw [ho]; rfl
 have h9 : (o.op == 9) = false := by rw [ho]; rfl
 have h13 : (o.op == 13) = false := by rw [ho]; rfl
 have h11 : (o.op == 11) = true := by rw [ho]; rfl
 have lB := h1.lt _ a1d
 have lF := h1.lt _ a2f
 have lg := h1.lt _ (a2t hq)
 have z1 : ¬ w1.heap.size = p.B := by omega
 have z2 : ¬ w1.heap.size = p.F := by omega
 have z3 : ¬ w1.heap.size = q.g := by omega
 have z4 : W.heap.size + 1 < w1.heap.size := a0n hA.o
 have z5 : ¬ w1.heap.size = W.heap.size + 1 := by omega
 subst hcn hcc
 subst hca
 have lb := World.block_lt_of_cell? _ _ d0
 simp only at lb
 have s0 := a0l hA.b d0
 have s1 := a0l hA.b d1
 have o0 : w1.cell? ⟨W.heap.size, 0, none⟩ = some (.slice (some ⟨fb, off, none⟩) nf cf) := a0a hA.c rfl
 replace e : Hid _ := e
 replace hk : Hid _ := hk
 have hk40 : k + 1 < 40 := by rw [← hk.out]; exact h40
 replace hrn : Hid _ := hrn
 clear hlen ho hrg t0 t2 h40
 replace hra : Hid _ := hra
 replace hrb : Hid _ := hrb
 replace hrc : Hid _ := hrc
 replace hvn : Hid _ := hvn
 have hagl : ag.length = rc := by rw [← hag, List.length_take, List.length_drop]; omega
 have hagm : ∀ m, m < rc → ag[m]? = q.x.rs[rb + 1 + m]? := fun m hm => by rw [← hag, List.getElem?_take_of_lt hm, List.getElem?_drop]
 replace hagl : Hid _ := hagl
 replace hagm : Hid _ := hagm
 replace hbc : Hid _ := hbc
 clear hag
 have hvv : Hid (q.x.rs[rb]? = some v) := hv
 clear hv
 go_enter Tryz.func58, Tryz.ntmps58
 go_wp2
 go_region
 clear z1 z2 z3 z4 z5 b1 b2 b3 v0 v1 v2
 obtain ⟨w2, hw2⟩ := exq ((w1.alloc (bx v)).drew)
 have E2 : Below w1.heap.size w1 w2 := by rw [← hw2]; exact a0i (a0c (Below.refl _ _) _)
 have g2 : w2.heap[w1.heap.size]? = some (bx v) := by rw [← hw2]; exact a0h _ _
 have h2 := h1.on E2
 rw [hw2]
 clear hw2
 obtain ⟨v0, v1, v2, _, _, _⟩ := in3 g2
 have c2 := a0l E2 c0
 have y0 := a0l E2 s0
 have y1 := a0l E2 s1
 have o2 := a0l E2 o0
 obtain ⟨b0, b1, b2, b3⟩ := four ((E2.block _ (a0n hA.o)).trans hA.o)
 rw [hra.out] at b1
 rw [hrb.out] at b2
 rw [hrc.out] at b3
 rw [hvn.out] at v1
 have h40' : ((k : Int) + 1 ≥ 40) = False := by simp; omega
 obtain ⟨mc, hrun, hms, hml⟩ := a9y r hr
 replace hms : Hid _ := hms
 replace hml : Hid _ := hml
 clear c0 s0 s1 o0 d0 d1
 have x1 := a0n g2
 have z4 : W.heap.size + 1 < w1.heap.size := a0n hA.o
 have x2 : W.heap.size + 1 < w2.heap.size := by omega
 have x3 : W.heap.size < w2.heap.size := by omega
 have x4 : fb < w2.heap.size := by omega
 have n1 : ¬ w2.heap.size = w1.heap.size := by omega
 have n2 : ¬ w2.heap.size = W.heap.size + 1 := by omega
 have n3 : ¬ w2.heap.size = W.heap.size := by omega
 have n4 : ¬ w2.heap.size = fb := by omega
 have n1' : ¬ w2.heap.size + 1 = w1.heap.size := by omega
 have n2' : ¬ w2.heap.size = W.heap.size := by omega
 have n3' : ¬ w2.heap.size + 1 = W.heap.size := by omega
 have n4' : ¬ w2.heap.size + 1 = fb := by omega
 go_wp2
 have hn0 := hn
 replace t1 : Hid _ := t1
 replace t3 : Hid _ := t3
 replace t4 : Hid _ := t4
 replace c2 : Hid _ := c2
 replace y0 : Hid _ := y0
 replace v0 : Hid _ := v0
 replace v2 : Hid _ := v2
 replace b0 : Hid _ := b0
 replace b2 : Hid _ := b2
 replace b3 : Hid _ := b3
 replace hq : Hid _ := hq
 replace hlv : Hid _ := hlv
 replace hrm : Hid _ := hrm
 replace h5v : Hid _ := h5v
 replace E2 : Hid _ := E2
 replace g2 : Hid _ := g2
 replace h2 : Hid _ := h2
 replace h1 : Hid _ := h1
 replace hA : Hid _ := hA
 replace hk40 : Hid _ := hk40
 clear h5 h8 h10 h9 h13 h11 h40'
 apply via
 ·intro tail
  go_region
  ·have hCI := CI.b' w2 mc r hms.out hml.out hr (.cells #[.int .i64 (n : Nat), .int .i64 0, .int .i64 (ra : Nat), .slice (some ⟨w2.heap.size, 0, none⟩) r r] 50)
   obtain ⟨w3, hw3⟩ := exq (((w2.alloc (.cells mc 30)).alloc (.cells #[.int .i64 (n : Nat), .int .i64 0, .int .i64 (ra : Nat), .slice (some ⟨w2.heap.size, 0, none⟩) r r] 50)).drew)
   rw [hw3] at hCI ⊢
   clear hw3
   obtain ⟨D, hgN⟩ := exq (w2.heap.size + 1)
   rw [hgN] at hCI ⊢
   obtain ⟨gN, hD⟩ := exq (w2.heap.size)
   have hge : w2.heap.size ≤ gN := by omega
   have hDe : w2.heap.size ≤ D := by omega
   have hDg : D ≠ gN := by omega
   rw [hD] at hCI ⊢
   clear hgN hD
   revert hCI
   revert hDg
   revert hDe
   revert hge
   revert w3
   revert gN
   revert D
   exact tail.out
  ·have hCI := CI.a w2 mc r hms.out hml.out hr (.cells #[.int .i64 (n : Nat), .int .i64 0, .int .i64 (ra : Nat), .slice (some ⟨w2.heap.size + 1, 0, none⟩) r r] 50)
   obtain ⟨w3, hw3⟩ := exq (((w2.alloc (.cells #[.int .i64 (n : Nat), .int .i64 0, .int .i64 (ra : Nat), .slice (some ⟨w2.heap.size + 1, 0, none⟩) r r] 50)).alloc (.cells mc 30)).drew)
   rw [hw3] at hCI ⊢
   clear hw3
   obtain ⟨gN, hgN⟩ := exq (w2.heap.size + 1)
   rw [hgN] at hCI ⊢
   obtain ⟨D, hD⟩ := exq (w2.heap.size)
   have hge : w2.heap.size ≤ gN := by omega
   have hDe : w2.heap.size ≤ D := by omega
   have hDg : D ≠ gN := by omega
   rw [hD] at hCI ⊢
   clear hgN hD
   revert hCI
   revert hDg
   revert hDe
   revert hge
   revert w3
   revert gN
   revert D
   exact tail.out
 intro D gN w3 hge hDe hDg hCI
 clear n1 n2 n3 n4 n1' n2' n3' n4' hrun hms hml
 go_wp2
 go_loopw [15] (fun i wr => ∃ m : Nat, m ≤ rc ∧ m ≤ pr ∧ i = .int .i64 (m : Nat) ∧ Hid (CI w2 D gN r (.cells #[.int .i64 (n : Nat), .int .i64 0, .int .i64 (ra : Nat), .slice (some ⟨gN, 0, none⟩) r r] 50) (fill ag r m) wr)) (fun i _ => rc - (intOf i).toNat)
 case atStart =>
  refine ⟨0, Nat.zero_le _, Nat.zero_le _, rfl, ?_⟩
  have : fill ag r 0 = List.replicate r nilV := by simp [fill]
  rw [this]
  exact hCI
 case round =>
  obtain ⟨m, hm1, hm2, rfl, hI⟩ := hrel
  have hbw := hI.out.b
  have hbW := a0b (a0b hA.out.b E2.out) hbw
  have hC : ∀ u, Below wr.heap.size wr u → (u.cell? ⟨fb, off + n * 4, none⟩ = some (.int .i64 (pr : Nat)) ∧ u.cell? ⟨W.heap.size, 0, none⟩ = some (.slice (some ⟨fb, off, none⟩) nf cf)) ∧ u.cell? ⟨w1.heap.size, 1, none⟩ = some (.int .i64 (n : Nat)) ∧ u.cell? ⟨W.heap.size + 1, 3, none⟩ = some (.int .i64 (rc : Nat)) := fun u hu => ⟨⟨a0l hu (a0l hbw y0.out), a0l hu (a0l hbw o2)⟩, a0l hu (a0l hbw v1), a0l hu (a0l hbw b3.out)⟩
  replace hC : Hid _ := hC
  clear y1 o2 v1 b1
  by_cases hh : m < rc ∧ m < pr
  ·obtain ⟨h1, h2⟩ := hh
   obtain ⟨x, hx⟩ : ∃ x, ag[m]? = some x := ⟨ag[m]'(by rw [hagl.out]; exact h1), List.getElem?_eq_getElem _⟩
   have hx' := hx
   rw [hagm.out m h1] at hx'
   have hrw := (h.on hbW).rg q hq.out
   obtain ⟨u0, u1, u2⟩ : wr.cell? ⟨q.g, (rb + 1 + m) * 3, none⟩ = some (.int .i64 x.k) ∧ wr.cell? ⟨q.g, (rb + 1 + m) * 3 + 1, none⟩ = some (.int .i64 x.n) ∧ wr.cell? ⟨q.g, (rb + 1 + m) * 3 + 2, none⟩ = some (.string x.s) := by
    obtain ⟨i0, i1, i2⟩ := a2k hx'
    exact ⟨(hrw.cell i0).1, (hrw.cell i1).1, (hrw.cell i2).1⟩
   have hix : rb + 1 + m < rn := by rw [← hrn.out]; exact (List.getElem?_eq_some_iff.1 hx').1
   have hmr : m < r := by omega
   have hrm' := hrm.out
   obtain ⟨z, hz⟩ : ∃ z, (fill ag r m)[m]? = some z := ⟨(fill ag r m)[m]'(by have := hagl.out; simp [fill]; omega), List.getElem?_eq_getElem _⟩
   obtain ⟨⟨f0, g0⟩, ⟨f1, g1⟩, ⟨f2, g2'⟩⟩ : (wr.cell? ⟨gN, m * 3, none⟩ = some (.int .i64 z.k) ∧ wr.frozen? ⟨gN, m * 3, none⟩ = false) ∧ (wr.cell? ⟨gN, m * 3 + 1, none⟩ = some (.int .i64 z.n) ∧ wr.frozen? ⟨gN, m * 3 + 1, none⟩ = false) ∧ (wr.cell? ⟨gN, m * 3 + 2, none⟩ = some (.string z.s) ∧ wr.frozen? ⟨gN, m * 3 + 2, none⟩ = false) := by
    obtain ⟨i0, i1, i2⟩ := a2k hz
    exact ⟨hI.out.o.cell i0, hI.out.o.cell i1, hI.out.o.cell i2⟩
   have a3 := (hC.out wr (Below.refl _ _)).2.2
   have a2 := (hC.out wr (Below.refl _ _)).2.1
   have a0 := (hC.out wr (Below.refl _ _)).1.1
   have a1 := (hC.out wr (Below.refl _ _)).1.2
   have a4 := a0l hbw b2.out
   have a5 := a0l (a0b E2.out hbw) t3.out
   have a6 := a0a (i := 3) hI.out.d rfl
   replace hx : Hid _ := hx
   clear hz hx' hrw
   obtain ⟨j, hj⟩ : ∃ j : Nat, rb + 1 + m = j := ⟨_, rfl⟩
   have hji : ((rb : Int) + 1 + (m : Int)) = (j : Int) := by omega
   rw [hj] at u0 u1 u2 hix
   have w1e : IntKind.i64.wrap ((rb : Int) + 1) = (rb : Int) + 1 := IntWalk.i64_in _ ⟨by omega, by omega⟩
   have w2e : IntKind.i64.wrap ((rb : Int) + 1 + (m : Int)) = (j : Int) := by rw [IntWalk.i64_in _ ⟨by omega, by omega⟩]; exact hji
   have w3e : IntKind.i64.wrap (j : Int) = (j : Int) := IntWalk.i64_in _ ⟨by omega, by omega⟩
   replace hji : Hid _ := hji
   obtain ⟨wY, hwY⟩ := exq (wr.drew)
   have hIY : CI w2 D gN r (.cells #[.int .i64 (n : Nat), .int .i64 0, .int .i64 (ra : Nat), .slice (some ⟨gN, 0, none⟩) r r] 50) (fill ag r m) wY := by rw [← hwY]; exact CI.drew' hI.out
   have EY : Below wr.heap.size wr wY := by rw [← hwY]; exact a0i (Below.refl _ _)
   have U0 := a0l EY u0
   have U1 := a0l EY u1
   have U2 := a0l EY u2
   have L0 := a0l EY f0
   have L1 := a0l EY f1
   have L2 := a0l EY f2
   have lgN := World.block_lt_of_cell? _ _ f0
   have G0 := (EY.frozen (p := ⟨gN, m * 3, none⟩) lgN).trans g0
   have G1 := (EY.frozen (p := ⟨gN, m * 3 + 1, none⟩) lgN).trans g1
   have G2 := (EY.frozen (p := ⟨gN, m * 3 + 2, none⟩) lgN).trans g2'
   have A4 := a0l EY a4
   have A5 := a0l EY a5
   have A6 := a0l EY a6
   clear u0 u1 u2 f0 f1 f2 g0 g1 g2' a4 a5 a6
   replace hIY : Hid _ := hIY
   go_wp2
   refine a9q 15 wY hwY (by kernel_rfl) (by kernel_rfl) ?_
   clear hwY
   simp only [List.take_succ_cons, List.take_zero, List.drop_succ_cons, List.drop_zero]
   repeat still_step
   refine wpStill_nil ?_
   go_wp2
   go_roundw
   case measure => simp [intOf]; omega
   case rel =>
    refine ⟨m + 1, by omega, by omega, by go_num, ?_⟩
    have := hIY.out.put hDg hge m x _ rfl
    rw [c6n hx.out hmr] at this
    exact this
  ·have hd : ¬ m < rc ∨ (m < rc ∧ ¬ m < pr) := by omega
   clear hh
   rcases hd with h1 | ⟨h1, h2⟩
   all_goals
    have hEnd : fill ag r m = a0x pr r ag := c6o (by rw [hagl.out]; omega)
    have hT3 := hI.out.d
    have hO3 : OwnR wr gN 30 3 r r (flat (a0x pr r ag)) := by rw [← hEnd]; exact hI.out.o
    have e2s := E2.out.size
    have x1 := a0l (a0b E2.out hbw) t1.out
    have xf := ((a0b E2.out hbw).frozen (p := ⟨p.F, k * 4 + 1, none⟩) lF).trans t4.out
    have b3' := (hC.out wr (Below.refl _ _)).2.2
    have b5' := (hC.out wr (Below.refl _ _)).2.1
    have b6' := (hC.out wr (Below.refl _ _)).1.1
    have b7' := (hC.out wr (Below.refl _ _)).1.2
    obtain ⟨hP, hown1⟩ := (h.on hbW).setPC2 e.out nx
    obtain ⟨hP0, _⟩ := h.setPC2 e.out nx
    rw [hk.out] at hP hP0
    have hmk : MK p.own (W.setCell ⟨p.F, k * 4 + 1, none⟩ (.int .i64 nx)) p.own (wr.setCell ⟨p.F, k * 4 + 1, none⟩ (.int .i64 nx)) := MK.later hbW a2f
    have hmk0 : MK p.own W p.own (W.setCell ⟨p.F, k * 4 + 1, none⟩ (.int .i64 nx)) := MK.set a2f
    obtain ⟨X4, hX4⟩ := exq (wr.setCell ⟨p.F, k * 4 + 1, none⟩ (.int .i64 nx))
    have hT4 : X4.heap[D]? = some (.cells #[.int .i64 (n : Nat), .int .i64 0, .int .i64 (ra : Nat), .slice (some ⟨gN, 0, none⟩) r r] 50) := by rw [← hX4]; exact (a0f _ _ (by omega)).trans hT3
    have hO4 : OwnR X4 gN 30 3 r r (flat (a0x pr r ag)) := hO3.same (by rw [← hX4]; exact a0f _ _ (by omega))
    rw [hX4] at hP hmk
    replace hP : Hid _ := hP
    replace hP0 : Hid _ := hP0
    replace hmk : Hid _ := hmk
    replace hmk0 : Hid _ := hmk0
    replace hown1 : Hid _ := hown1
    go_wp2
    clear x1 xf b3' b5' b6' b7' hX4
    replace hP := hP.out
    replace hP0 := hP0.out
    replace hmk := hmk.out
    replace hmk0 := hmk0.out
    replace hown1 := hown1.out
    obtain ⟨p1, hp1⟩ : ∃ p1 : Mp, { p with fw := l ++ [{ q with x := { q.x with pc := nx } }] } = p1 := ⟨_, rfl⟩
    rw [hp1] at hP hP0 hown1
    have eB : p1.B = p.B := by rw [← hp1]
    have eF : p1.F = p.F := by rw [← hp1]
    have efc : p1.fc = p.fc := by rw [← hp1]
    have eap : p1.ap = p.ap := by rw [← hp1]
    clear hp1
    have a0 := a0a (i := 0) hT4 rfl
    have a1 := a0a (i := 1) hT4 rfl
    have a2 := a0a (i := 2) hT4 rfl
    have a3 := a0a (i := 3) hT4 rfl
    have hbU := a0c (a0i (Below.refl X4.heap.size X4)) (.cells #[.int .i64 (n : Nat), .int .i64 0, .int .i64 (ra : Nat), .slice (some ⟨gN, 0, none⟩) r r] 50)
    have hgU : (X4.drew.alloc (.cells #[.int .i64 (n : Nat), .int .i64 0, .int .i64 (ra : Nat), .slice (some ⟨gN, 0, none⟩) r r] 50)).heap[X4.heap.size]? = some (.cells #[.int .i64 (n : Nat), .int .i64 0, .int .i64 (ra : Nat), .slice (some ⟨gN, 0, none⟩) r r] 50) := a0h X4.drew _
    obtain ⟨U, hU⟩ := exq (X4.drew.alloc (.cells #[.int .i64 (n : Nat), .int .i64 0, .int .i64 (ra : Nat), .slice (some ⟨gN, 0, none⟩) r r] 50))
    rw [hU] at hbU hgU
    have hu := hP.on hbU
    have hlen1 : (l.map Fw.x ++ [{ q.x with pc := nx }]).length = k + 1 := by simp [hk.out]
    have d2 := hP.cells.1
    have d3 := hu.cells.1
    have hown := hu.fo.owns (base := w0.heap.size) (hu.lo _ a2f)
    simp only [hlen1] at d2 d3 hown
    rw [eB, eF, efc] at d2 d3
    rw [eF, efc] at hown
    obtain ⟨i0, hi0, hz0, hz1', hz2⟩ := a1h b0v
    have hnews : ∀ j x, [Value.int .i64 (n : Nat), Value.int .i64 0, Value.int .i64 (ra : Nat), Value.slice (some ⟨gN, 0, none⟩) r r][j]? = some x → U.cell? ((⟨X4.heap.size, 0, none⟩ : Addr).add j) = some x := fun j x hx => by
     match j, hx with
     | 0, hx => cases hx; exact a0a (i := 0) hgU rfl
     | 1, hx => cases hx; exact a0a (i := 1) hgU rfl
     | 2, hx => cases hx; exact a0a (i := 2) hgU rfl
     | 3, hx => cases hx; exact a0a (i := 3) hgU rfl
     | j + 4, hx => simp at hx
    have hone : ∀ x ∈ [Value.int .i64 (n : Nat), Value.int .i64 0, Value.int .i64 (ra : Nat), Value.slice (some ⟨gN, 0, none⟩) r r], x.oneCell' = true := fun x hx => by simp at hx; rcases hx with rfl | rfl | rfl | rfl <;> rfl
    have hk40' := hk40.out
    have h63 : k + 1 + 1 ≤ maxLen := by unfold maxLen; omega
    have hby : (k + 1 + 1) * 48 ≤ 140737488355328 := by omega
    have hsz := hu.bl.size
    have apx := a1f h.nd
    have hneF : some p.B ≠ some p.F := fun e => apx.bf (Option.some.inj e)
    have hbx := hu.box
    rw [eB] at hbx
    have hltB := hu.lt _ a1d
    rw [eB] at hltB
    have hrs : (a0x pr r ag).length = r := by simp [a0x]; omega
    replace hrs : Hid _ := hrs
    replace hlen1 : Hid _ := hlen1
    replace hu : Hid _ := hu
    replace hP0 : Hid _ := hP0
    replace hO4 : Hid _ := hO4
    replace hmk : Hid _ := hmk
    clear hP hO3 hT3
    go_region_law (first | (refine step_append_lies _ (by rfl) _ _ _ (by rfl) w0.heap.size 50 i0 _ 4 48 Tryz.underlying25 hi0 hz0 hz1' hz2 rfl (by omega) (.slice (some ⟨p.F, 0, none⟩) (k + 1) p.fc) (k + 1) _ (by rfl) hown ⟨X4.heap.size, 0, none⟩ 1 1 [Value.int .i64 (n : Nat), Value.int .i64 0, Value.int .i64 (ra : Nat), Value.slice (some ⟨gN, 0, none⟩) r r] (by rfl) (by rfl) hnews hone (by omega) h63 hby hsz _ rfl ?_; intro g3 cap3 w5 hown3 hgrow hat hlt3; have p5 := (hgrow.block _ hltB hneF).trans hbx; have q5 := a0a (i := 0) p5 rfl; have f5 : w5.frozen? ⟨p.B, 0, none⟩ = false := a0e p5))
    all_goals
     have hown3' : w5.ownsRow w0.heap.size 50 4 (.slice (some ⟨g3, 0, none⟩) ((l.map Fw.x ++ [{ q.x with pc := nx }]).length + 1) cap3) ((l.map Fw.x ++ [{ q.x with pc := nx }]).length + 1) (a0p p1.fw ++ [Value.int .i64 (n : Nat), Value.int .i64 0, Value.int .i64 (ra : Nat), Value.slice (some ⟨gN, 0, none⟩) (a0x pr r ag).length r]) := by rw [hlen1.out, hrs.out]; exact hown3
     have hgr : U.grownBy w5 (some p1.F) := by rw [eF]; exact hgrow
     have hat' : p1.F = g3 ∨ g3 = U.heap.size := by
      rw [eF]
      rcases hat with e | e
      ·exact .inl (Option.some.inj e)
      ·exact .inr e
     have hO5 : OwnR U gN 30 3 (a0x pr r ag).length r (flat (a0x pr r ag)) := by rw [hrs.out]; exact OwnR.same (W := X4) hO4.out (hbU.block gN (OwnR.lt (W := X4) (e := 30) (sz := 3) (n := r) (cap := r) (xs := flat (a0x pr r ag)) hO4.out))
     have hmkU := hmk.out.trans (MK.below (O := p.own) hbU)
     rw [← hown1] at hmkU
     obtain ⟨p', z1, z2, hM, hK⟩ := hP0.out.push hmkU hu.out (q := ⟨⟨n, 0, ra, a0x pr r ag⟩, gN, r⟩) (by show _ ≤ gN; have := hA.out.b.size; simp; omega) hO5 hown3' hgr hat'
     rw [hown1] at hK
     have hlx := hlen1.out
     simp only [hlx, eB] at hM hK
     simp only [List.append_assoc, List.cons_append, List.nil_append] at hM
     go_wp2
     go_ret2
     exact ⟨rfl, p', z1.trans eB, z2.trans eap, hM, hmk0.trans hK⟩
end
section
variable {w0 : World} {p : Mp} {s : St} {W : World}
theorem c6u (hF : OpF F) (hp : a2i fs main = true) (hP : b0h w0 (.slice ca fs.length cc) fs) (ht : PTab w0) (h : Dc w0 p s W) (hg : Good fs s) (h60 : s.st < 60000) (e : p.fw = l ++ [q]) {o : Od} (ho : orderAt fs q.x = some o) :
  Calls Tryz.prog 34 #[PV ca fs.length cc mn, .pointer (some ⟨p.B, 0, none⟩)] W (EndQ w0 p.B p.ap (endS s s.st (doR F fs o (l.map Fw.x) q.x { s with st := s.st + 1 }))) := by
 obtain ⟨f, fb, off, ib, ioff, fn, pc, w1, X, rfl, hf, hfb, hfn, hpc, hB, hD, hel⟩ := h.begin (mn := mn) hp hP hg h60 e ho
 have hq : q ∈ p.fw := by rw [e]; simp
 have hfr : s.fr = l.map Fw.x ++ [q.x] := by rw [← h.hf, e]; simp
 have hx : FG fs s.tb.length q.x := hg.fg q.x (by rw [hfr]; simp)
 obtain ⟨f', o', hf', _, ho', hi, hk, k1, k2, k3, k4, k5, k6⟩ := hx.order hp
 rw [ho] at ho'
 cases ho'
 rw [hfn] at hf'
 simp only [Int.toNat_natCast] at hf'
 rw [hf] at hf'
 cases hf'
 have hg1 := hg.tick h60
 have rg := fun i => VG.rg hx i
 have h200 := hg.t2
 have h40 := hg.n2
 have hlen : s.fr.length = l.length + 1 := by rw [hfr]; simp
 have hl : l.length ≤ 1000 := by omega
 have hi2 := hk.i2
 have hr2 := hk.r2
 have tbl : ∀ v : Vl, VG s.tb.length fs.length v → v.k = 4 → ∃ i : Nat, v.n = i ∧ i < s.tb.length ∧ s.tb[i]? = some (a1a s.tb v) := fun v hv h4 => by
  obtain ⟨g1, _, g2, g3⟩ := TG.of hg.tg hv h4
  exact ⟨v.n.toNat, by omega, g3, g1⟩
 have nxt : ∀ {p1 : Mp} {s2 : St} {Z : World}, p1.fw = p.fw → p1.F = p.F → Dc w0 p1 s2 Z → (∃ pcx, Z.cell? ⟨p.F, l.length * 4 + 1, none⟩ = some (.int .i64 pcx)) ∧ Z.frozen? ⟨p.F, l.length * 4 + 1, none⟩ = false := fun {p1 s2 Z} e1 e2 h1 => by
  obtain ⟨_, t1, _, _, t4⟩ := h1.topCells (e1.trans e)
  rw [e2] at t1 t4
  exact ⟨⟨_, t1⟩, t4⟩
 have hpc1 : (pc : Int) + 1 = q.x.pc + 1 := by rw [hpc]
 obtain ⟨op, oa, ob, oc, x1, x2, x3, x4⟩ := o
 simp only at hB
 by_cases e1 : op = 1
 ·subst e1
  obtain ⟨a0, a1, b0, b1⟩ := a5t hi (.inl rfl)
  obtain ⟨a, rfl, la, ra⟩ := a2b k4 a0 a1
  obtain ⟨b, rfl, lb, rb⟩ := a2b k4 b0 b1
  refine (c9d hB la lb (hD.rga hq rb).th (hD.rga hq ra)).mono fun E W' hh => ?_
  obtain ⟨rfl, V, hV, rfl⟩ := hh
  rw [hpc1]
  obtain ⟨p', y1, ya, y2⟩ := hD.endOk e hV a (rgV q.x b) (q.x.pc + 1)
  exact ⟨rfl, p', y1, a4z ya, y2⟩
 by_cases e2 : op = 2
 ·subst e2
  obtain ⟨a0, a1, b0, b1⟩ := c1y hi rfl
  obtain ⟨a, rfl, la, ra⟩ := a2b k4 a0 a1
  obtain ⟨b, rfl⟩ : ∃ b : Nat, ob = b := ⟨ob.toNat, by simp only at b0; omega⟩
  simp only at b1
  have hb' : b < f.cs.length := by omega
  have hcv : f.cs[b]? = some (cstV fs q.x b) := by simp [cstV, hfn, hf, hb']
  obtain ⟨h1, h2, h3⟩ := hel _ _ hf
  obtain ⟨cb, coff, e4, hcb, hes⟩ := h2.2 (fun e => by rw [e] at hb'; simp at hb')
  have e5 := h1.c
  rw [e4] at e5
  refine (c4f hB la hb' (hD.rga hq ra) e5 (hes b _ hcv)).mono fun E W' hh => ?_
  obtain ⟨rfl, V, hV, rfl⟩ := hh
  rw [hpc1]
  obtain ⟨p', y1, ya, y2⟩ := hD.endOk e hV a (cstV fs q.x b) (q.x.pc + 1)
  exact ⟨rfl, p', y1, a4z ya, y2⟩
 by_cases e3 : op = 3
 ·subst e3
  obtain ⟨a0, a1⟩ := a8q hi (.inl rfl)
  obtain ⟨a, rfl, la, ra⟩ := a2b k4 a0 a1
  have eR : doR F fs ⟨3, a, ob, oc, x1, x2, x3, x4⟩ (l.map Fw.x) q.x { s with st := s.st + 1 } = match (if s.tb.length = 200 then .inl 1 else .inr (putR q.x a (tbV s.tb.length), s.tb ++ [⟨[], []⟩], s.out) : Int ⊕ (Frm × List Tb × List ByteArray)) with | .inl c => .inl c | .inr (y, tb, out) => .inr { s with st := s.st + 1, fr := l.map Fw.x ++ [{ y with pc := y.pc + 1 }], tb := tb, out := out } := rfl
  rw [eR]
  by_cases h2 : s.tb.length = 200
  ·rw [if_pos h2]
   refine (b9s hB (e := 1) (hD.rga hq ra) (fun u hu => d0j (hD.on hu) h2) (by decide)).mono fun E W' hh => ?_
   obtain ⟨rfl, V, hV, rfl⟩ := hh
   exact ⟨rfl, p, rfl, fun _ hk => hk, hD.endNo hV 1⟩
  ·rw [if_neg h2]
   refine (b9r hB la (hD.rga hq ra) (fun u Z => ∃ p1 : Mp, p1.B = p.B ∧ p1.ap = List.range' X.heap.size (u.heap.size - X.heap.size) ++ p.ap ∧ p1.fw = p.fw ∧ p1.F = p.F ∧ Dc w0 p1 { s with st := s.st + 1, tb := s.tb ++ [⟨[], []⟩] } Z ∧ MK p.own u p1.own Z) (fun u hu => d0k (hD.moreAll hu) rfl (by show s.tb.length < 200; omega)) (fun u Z hu hz => ?_)).mono fun E W' hh => ?_
   ·obtain ⟨p1, z1, z2, z3, z4, z5, z6⟩ := hz
    obtain ⟨_, t1, _, _, t4⟩ := z5.topCells (z3.trans e)
    obtain ⟨_, _, _, _, c4, c5, _, _, _, cf⟩ := z5.cells
    rw [z4] at t1 t4
    rw [z1] at c4 c5 cf
    rw [hpc] at t1
    refine ⟨⟨t1, t4, z5.rga (by rw [z3]; exact hq) ra, ⟨_, c4⟩, ⟨_, c5⟩, cf 4, cf 5⟩, fun b ob hb hob => ?_⟩
    exact (z6.box hob (fun hn => by have := hD.lt _ hn; omega)).1
   ·obtain ⟨rfl, u, Z, b9, hu, ⟨p1, z1, z2, z3, z4, z5, z6⟩, hb9, hu9, rfl⟩ := hh
    have hm : b9 ∈ p1.ap := by rw [z2]; exact List.mem_append_left _ (List.mem_range'_1.2 ⟨hb9, by have := a0n hu9; omega⟩)
    have z5' := z5.wrote (W' := put3 Z b9 (tbV s.tb.length)) hm (by have := hD.bl.size; omega) ((((a1n.refl (fun k => k = b9) Z).set b9 0 _ (fun _ => rfl)).set b9 1 _ (fun _ => rfl)).set b9 2 _ (fun _ => rfl))
    rw [hpc1]
    obtain ⟨p', y1, ya, y2⟩ := z5'.endOk (z3.trans e) (Below.refl _ _) a (tbV s.tb.length) (q.x.pc + 1)
    rw [z4] at y2
    exact ⟨rfl, p', y1.trans z1, fun k hk => by rw [ya, z2]; exact List.mem_append_right _ hk, y2⟩
 by_cases e4 : op = 4
 ·subst e4
  obtain ⟨a0, a1, b0, b1, c0, c1⟩ := a3y hi (.inl rfl)
  obtain ⟨a, rfl, la, ra⟩ := a2b k4 a0 a1
  obtain ⟨b, rfl, lb, rb⟩ := a2b k4 b0 b1
  obtain ⟨c, rfl, lc, rc⟩ := a2b k4 c0 c1
  have eR : doR F fs ⟨4, a, b, c, x1, x2, x3, x4⟩ (l.map Fw.x) q.x { s with st := s.st + 1 } = match (if (rgV q.x b).k = 4 then .inr (putR q.x a (getT (a1a s.tb (rgV q.x b)).ks (a1a s.tb (rgV q.x b)).vs (rgV q.x c)), s.tb, s.out) else .inl 3 : Int ⊕ (Frm × List Tb × List ByteArray)) with | .inl c => .inl c | .inr (y, tb, out) => .inr { s with st := s.st + 1, fr := l.map Fw.x ++ [{ y with pc := y.pc + 1 }], tb := tb, out := out } := rfl
  rw [eR]
  by_cases h4 : (rgV q.x b).k = 4
  ·rw [if_pos h4]
   obtain ⟨i, hi1, hi2', hi3⟩ := tbl _ (rg b) h4
   refine (b6y hB la lb lc (hD.rga hq rb).th (hD.rga hq rc).th (hD.rga hq ra) (fun u hu => c1v (hD.on hu) _ _ i hi2' h200 (by simpa using h4) hi1 _ hi3)).mono fun E W' hh => ?_
   obtain ⟨rfl, V, hV, rfl⟩ := hh
   rw [hpc1]
   obtain ⟨p', y1, ya, y2⟩ := hD.endOk e hV a _ (q.x.pc + 1)
   exact ⟨rfl, p', y1, a4z ya, y2⟩
  ·rw [if_neg h4]
   refine (b6z hB la lb lc (hD.rga hq rb).th (hD.rga hq rc).th (hD.rga hq ra) (e := 3) (fun u hu => b0d p.B 4 _ _ u (by simpa using h4) (.inl rfl)) (by decide)).mono fun E W' hh => ?_
   obtain ⟨rfl, V, hV, rfl⟩ := hh
   exact ⟨rfl, p, rfl, fun _ hk => hk, hD.endNo hV 3⟩
 by_cases e7 : op = 7
 ·subst e7
  obtain ⟨a0, a1, b0, b1, c0, c1⟩ := a3y hi (.inr (.inr (.inl rfl)))
  obtain ⟨a, rfl, la, ra⟩ := a2b k4 a0 a1
  obtain ⟨b, rfl, lb, rb⟩ := a2b k4 b0 b1
  obtain ⟨c, rfl, lc, rc⟩ := a2b k4 c0 c1
  have eR : doR F fs ⟨7, a, b, c, x1, x2, x3, x4⟩ (l.map Fw.x) q.x { s with st := s.st + 1 } = match (if (rgV q.x b).k = 4 then (if (a3j (a1a s.tb (rgV q.x b)).ks (a1a s.tb (rgV q.x b)).vs (rgV q.x c)).2 = 0 then .inr (putR q.x a (a3j (a1a s.tb (rgV q.x b)).ks (a1a s.tb (rgV q.x b)).vs (rgV q.x c)).1, s.tb, s.out) else .inl (a3j (a1a s.tb (rgV q.x b)).ks (a1a s.tb (rgV q.x b)).vs (rgV q.x c)).2) else .inl 3 : Int ⊕ (Frm × List Tb × List ByteArray)) with | .inl c => .inl c | .inr (y, tb, out) => .inr { s with st := s.st + 1, fr := l.map Fw.x ++ [{ y with pc := y.pc + 1 }], tb := tb, out := out } := rfl
  rw [eR]
  by_cases h4 : (rgV q.x b).k = 4
  ·rw [if_pos h4]
   obtain ⟨i, hi1, hi2', hi3⟩ := tbl _ (rg b) h4
   have hcall : ∀ u, Below X.heap.size X u → _ := fun u hu => b7o (hD.on hu) (rgV q.x b) (rgV q.x c) i hi2' h200 (by simpa using h4) hi1 _ hi3
   by_cases h0 : (a3j (a1a s.tb (rgV q.x b)).ks (a1a s.tb (rgV q.x b)).vs (rgV q.x c)).2 = 0
   ·rw [if_pos h0]
    rw [h0] at hcall
    refine (b7a hB la lb lc (hD.rga hq rb).th (hD.rga hq rc).th (hD.rga hq ra) hcall).mono fun E W' hh => ?_
    obtain ⟨rfl, V, hV, rfl⟩ := hh
    rw [hpc1]
    obtain ⟨p', y1, ya, y2⟩ := hD.endOk e hV a _ (q.x.pc + 1)
    exact ⟨rfl, p', y1, a4z ya, y2⟩
   ·rw [if_neg h0]
    refine (b0q hB la lb lc (hD.rga hq rb).th (hD.rga hq rc).th (hD.rga hq ra) hcall (by simpa using h0)).mono fun E W' hh => ?_
    obtain ⟨rfl, V, hV, rfl⟩ := hh
    exact ⟨rfl, p, rfl, fun _ hk => hk, hD.endNo hV _⟩
  ·rw [if_neg h4]
   refine (b0q hB la lb lc (hD.rga hq rb).th (hD.rga hq rc).th (hD.rga hq ra) (e := 3) (fun u hu => b0d p.B 7 _ _ u (by simpa using h4) (.inl rfl)) (by decide)).mono fun E W' hh => ?_
   obtain ⟨rfl, V, hV, rfl⟩ := hh
   exact ⟨rfl, p, rfl, fun _ hk => hk, hD.endNo hV 3⟩
 by_cases e6 : op = 6
 ·subst e6
  obtain ⟨a0, a1, b0, b1⟩ := a5t hi (.inr (.inl rfl))
  obtain ⟨a, rfl, la, ra⟩ := a2b k4 a0 a1
  obtain ⟨b, rfl, lb, rb⟩ := a2b k4 b0 b1
  have eR : doR F fs ⟨6, a, b, oc, x1, x2, x3, x4⟩ (l.map Fw.x) q.x { s with st := s.st + 1 } = match (if (rgV q.x b).k = 3 then .inr (putR q.x a (numV (rgV q.x b).s.size), s.tb, s.out) else if (rgV q.x b).k = 4 then .inr (putR q.x a (numV (lenZ (a1a s.tb (rgV q.x b)).ks (a1a s.tb (rgV q.x b)).vs)), s.tb, s.out) else .inl 3 : Int ⊕ (Frm × List Tb × List ByteArray)) with | .inl c => .inl c | .inr (y, tb, out) => .inr { s with st := s.st + 1, fr := l.map Fw.x ++ [{ y with pc := y.pc + 1 }], tb := tb, out := out } := rfl
  rw [eR]
  by_cases h3 : (rgV q.x b).k = 3
  ·rw [if_pos h3]
   have hsz : (rgV q.x b).s.size ≤ 300 := b1q (n := (rgV q.x b).n) (by have := (rg b).m; rw [h3] at this; exact this)
   refine (b2u hB la lb (hD.rga hq rb).th (hD.rga hq ra) (fun u hu => c1u p.B _ _ u (by simpa using h3) hsz)).mono fun E W' hh => ?_
   obtain ⟨rfl, V, hV, rfl⟩ := hh
   rw [hpc1]
   obtain ⟨p', y1, ya, y2⟩ := hD.endOk e hV a _ (q.x.pc + 1)
   exact ⟨rfl, p', y1, a4z ya, y2⟩
  ·rw [if_neg h3]
   by_cases h4 : (rgV q.x b).k = 4
   ·rw [if_pos h4]
    obtain ⟨i, hi1, hi2', hi3⟩ := tbl _ (rg b) h4
    refine (b2u hB la lb (hD.rga hq rb).th (hD.rga hq ra) (fun u hu => c1w (hD.on hu) _ _ i hi2' h200 (by simpa using h4) hi1 _ hi3)).mono fun E W' hh => ?_
    obtain ⟨rfl, V, hV, rfl⟩ := hh
    rw [hpc1]
    obtain ⟨p', y1, ya, y2⟩ := hD.endOk e hV a _ (q.x.pc + 1)
    exact ⟨rfl, p', y1, a4z ya, y2⟩
   ·rw [if_neg h4]
    refine (b9q hB la lb (hD.rga hq rb).th (hD.rga hq ra) (e := 3) (fun u hu => b0d p.B 6 _ _ u (by simpa using h4) (.inr (by simpa using h3))) (by decide)).mono fun E W' hh => ?_
    obtain ⟨rfl, V, hV, rfl⟩ := hh
    exact ⟨rfl, p, rfl, fun _ hk => hk, hD.endNo hV 3⟩
 have t1 : (op == 1) = false := by simpa using e1
 have t2 : (op == 2) = false := by simpa using e2
 have t3 : (op == 3) = false := by simpa using e3
 have t4 : (op == 4) = false := by simpa using e4
 have t7 : (op == 7) = false := by simpa using e7
 have t6 : (op == 6) = false := by simpa using e6
 by_cases e8 : op = 8 ∨ op = 10
 ·have h20 : op ≤ 20 := by omega
  have ha0 : 0 ≤ oa := by
   rcases e8 with e8 | e8
   ·exact (b4l hi e8).1
   ·exact (b1r hi e8).1
  have eR : doR F fs ⟨op, oa, ob, oc, x1, x2, x3, x4⟩ (l.map Fw.x) q.x { s with st := s.st + 1 } = .inr { s with st := s.st + 1, fr := l.map Fw.x ++ [{ q.x with pc := oa }] } := by unfold doR; rw [if_pos e8]
  rw [eR]
  refine (a5o hB h20 t1 t2 t3 t4 t7 t6 ha0 (fun u Z => Below u.heap.size u Z) (fun u Z hu hz => nxt rfl rfl (hD.on (a0b hu hz))) (fun u hu => c6f (hD.on hu) e hl _ _ _ _ _ ⟨op, oa, ob, oc, x1, x2, x3, x4⟩ e8)).mono fun E W' hh => ?_
  obtain ⟨rfl, u, V, hu, hV, rfl⟩ := hh
  obtain ⟨p', y1, ya, y2⟩ := hD.endPC e (a0b hu hV) oa
  exact ⟨rfl, p', y1, a4z ya, y2⟩
 by_cases e9 : op = 9
 ·subst e9
  obtain ⟨a0, a1, b0, b1⟩ := b4k hi rfl
  obtain ⟨a, rfl, la, ra⟩ := a2b k4 a0 a1
  simp only at b0
  have eR : doR F fs ⟨9, a, ob, oc, x1, x2, x3, x4⟩ (l.map Fw.x) q.x { s with st := s.st + 1 } = .inr { s with st := s.st + 1, fr := l.map Fw.x ++ [{ q.x with pc := if truthB (rgV q.x a).k (rgV q.x a).n (rgV q.x a).s = true then q.x.pc + 1 else ob }] } := rfl
  rw [eR]
  have hnn : 0 ≤ (if truthB (rgV q.x a).k (rgV q.x a).n (rgV q.x a).s = true then (pc : Int) + 1 else ob) := by split <;> omega
  refine (a5o hB (by omega) t1 t2 t3 t4 t7 t6 hnn (fun u Z => Below u.heap.size u Z) (fun u Z hu hz => nxt rfl rfl (hD.on (a0b hu hz))) (fun u hu => c6g (hD.on hu) e hl _ _ _ _ _ ⟨9, a, ob, oc, x1, x2, x3, x4⟩ rfl a rfl _ ra)).mono fun E W' hh => ?_
  obtain ⟨rfl, u, V, hu, hV, rfl⟩ := hh
  rw [hpc1]
  obtain ⟨p', y1, ya, y2⟩ := hD.endPC e (a0b hu hV) (if truthB (rgV q.x a).k (rgV q.x a).n (rgV q.x a).s = true then q.x.pc + 1 else ob)
  exact ⟨rfl, p', y1, a4z ya, y2⟩
 by_cases e13 : op = 13
 ·subst e13
  obtain ⟨a0, a1⟩ := a8q hi (.inr (.inr rfl))
  obtain ⟨a, rfl, la, ra⟩ := a2b k4 a0 a1
  have eR : doR F fs ⟨13, a, ob, oc, x1, x2, x3, x4⟩ (l.map Fw.x) q.x { s with st := s.st + 1 } = .inr { s with st := s.st + 1, fr := l.map Fw.x ++ [{ q.x with pc := q.x.pc + 1 }], out := s.out ++ [a3n (rgV q.x a).k (rgV q.x a).n (rgV q.x a).s] } := rfl
  rw [eR]
  have hu60 : s.out.length ≤ 60000 := by have := hg.o1; have := hg.s2; omega
  refine (a5o hB (by omega) t1 t2 t3 t4 t7 t6 (nx := (pc : Int) + 1) (by omega) (fun u Z => ∃ p1 : Mp, p1.B = p.B ∧ p1.ap = p.ap ∧ p1.fw = p.fw ∧ p1.F = p.F ∧ Dc w0 p1 { s with st := s.st + 1, out := s.out ++ [a3n (rgV q.x a).k (rgV q.x a).n (rgV q.x a).s] } Z ∧ MK p.own u p1.own Z) (fun u Z hu hz => ?_) (fun u hu => c6h (hD.on hu) e hl hu60 _ _ _ _ _ ⟨13, a, ob, oc, x1, x2, x3, x4⟩ rfl a rfl _ ra)).mono fun E W' hh => ?_
  ·obtain ⟨p1, _, _, z3, z4, z5, _⟩ := hz
   exact nxt z3 z4 z5
  ·obtain ⟨rfl, u, V, hu, ⟨p1, z1, z2, z3, z4, z5, _⟩, rfl⟩ := hh
   rw [hpc1]
   obtain ⟨p', y1, ya, y2⟩ := z5.endPC (z3.trans e) (Below.refl _ _) (q.x.pc + 1)
   rw [z4] at y2
   exact ⟨rfl, p', y1.trans z1, a4z (ya.trans z2), y2⟩
 by_cases e5 : op = 5
 ·subst e5
  obtain ⟨a0, a1, b0, b1, c0, c1⟩ := a3y hi (.inr (.inl rfl))
  obtain ⟨a, rfl, la, ra⟩ := a2b k4 a0 a1
  obtain ⟨b, rfl, lb, rb⟩ := a2b k4 b0 b1
  obtain ⟨c, rfl, lc, rc⟩ := a2b k4 c0 c1
  have eR : doR F fs ⟨5, a, b, c, x1, x2, x3, x4⟩ (l.map Fw.x) q.x { s with st := s.st + 1 } = match (if (rgV q.x a).k = 4 then (if (setT (a1a s.tb (rgV q.x a)).ks (a1a s.tb (rgV q.x a)).vs (rgV q.x b) (rgV q.x c)).2 = 0 then .inr (q.x, s.tb.set (rgV q.x a).n.toNat ⟨keysOf (setT (a1a s.tb (rgV q.x a)).ks (a1a s.tb (rgV q.x a)).vs (rgV q.x b) (rgV q.x c)).1, a0q (setT (a1a s.tb (rgV q.x a)).ks (a1a s.tb (rgV q.x a)).vs (rgV q.x b) (rgV q.x c)).1⟩, s.out) else .inl (setT (a1a s.tb (rgV q.x a)).ks (a1a s.tb (rgV q.x a)).vs (rgV q.x b) (rgV q.x c)).2) else .inl 3 : Int ⊕ (Frm × List Tb × List ByteArray)) with | .inl c => .inl c | .inr (y, tb, out) => .inr { s with st := s.st + 1, fr := l.map Fw.x ++ [{ y with pc := y.pc + 1 }], tb := tb, out := out } := rfl
  rw [eR]
  by_cases h4 : (rgV q.x a).k = 4
  ·rw [if_pos h4]
   obtain ⟨i, hi1, hi2', hi3⟩ := tbl _ (rg a) h4
   have hin : (rgV q.x a).n.toNat = i := by rw [hi1]; simp
   rw [hin]
   obtain ⟨R, hR⟩ := exq (setT (a1a s.tb (rgV q.x a)).ks (a1a s.tb (rgV q.x a)).vs (rgV q.x b) (rgV q.x c))
   have hput : ∀ u, Below X.heap.size X u → Calls Tryz.prog 90 #[.pointer (some ⟨p.B, 0, none⟩), (rgV q.x a).v, (rgV q.x b).v, (rgV q.x c).v] u (PutQ w0 p { s with st := s.st + 1 } u i R) := fun u hu => by
    have := d0m (hD.on hu) (rgV q.x a) (rgV q.x b) (rgV q.x c) i hi2' h200 (by simpa using h4) hi1 _ hi3 (fun ks vs v hT => c4t ks vs _ _ _ _ v hT)
    rw [hR] at this
    exact this
   rw [hR]
   by_cases h0 : R.2 = 0
   ·rw [if_pos h0]
    refine (a5o hB (by omega) t1 t2 t3 t4 t7 t6 (nx := (pc : Int) + 1) (by omega) (fun u Z => ∃ p1 : Mp, p1.B = p.B ∧ p1.ap = p.ap ∧ p1.fw = p.fw ∧ p1.F = p.F ∧ Dc w0 p1 { s with st := s.st + 1, tb := s.tb.set i ⟨keysOf R.1, a0q R.1⟩ } Z) (fun u Z hu hz => ?_) (fun u hu => (b4t (hD.on hu) e hl _ _ _ _ _ ⟨5, a, b, c, x1, x2, x3, x4⟩ rfl a b c rfl rfl rfl _ _ _ ra rb rc 0 (fun _ Z => ∃ p1 : Mp, p1.B = p.B ∧ p1.ap = p.ap ∧ p1.fw = p.fw ∧ p1.F = p.F ∧ Dc w0 p1 { s with st := s.st + 1, tb := s.tb.set i ⟨keysOf R.1, a0q R.1⟩ } Z) (fun v hv => (hput v (a0b hu hv)).mono fun E Z hz => ?_)).mono fun E Z hz => ?_)).mono fun E W' hh => ?_
    ·obtain ⟨p1, _, _, z3, z4, z5⟩ := hz
     exact nxt z3 z4 z5
    ·obtain ⟨hE, ⟨z1, _⟩ | ⟨z1, p1, y1, y2, y3, y4, y5, y6⟩⟩ := hz
     ·exact absurd h0 z1
     ·rw [h0] at hE
      exact ⟨hE, p1, y1, y2, y3, y4, y5⟩
    ·obtain ⟨z1, _, _, z3⟩ := hz
     exact ⟨z1, z3⟩
    ·obtain ⟨rfl, u, V, hu, ⟨p1, z1, z2, z3, z4, z5⟩, rfl⟩ := hh
     rw [hpc1]
     obtain ⟨p', y1, ya, y2⟩ := z5.endPC (z3.trans e) (Below.refl _ _) (q.x.pc + 1)
     rw [z4] at y2
     exact ⟨rfl, p', y1.trans z1, a4z (ya.trans z2), y2⟩
   ·rw [if_neg h0]
    refine (a7y hB (by omega) t1 t2 t3 t4 t7 t6 (nx := (pc : Int) + 1) (e := R.2) (by simpa using h0) (fun u hu => (b4t (hD.on hu) e hl _ _ _ _ _ ⟨5, a, b, c, x1, x2, x3, x4⟩ rfl a b c rfl rfl rfl _ _ _ ra rb rc R.2 (fun v Z => Below v.heap.size v Z) (fun v hv => (hput v (a0b hu hv)).mono fun E Z hz => ?_)).mono fun E Z hz => ?_)).mono fun E W' hh => ?_
    ·obtain ⟨hE, ⟨_, z1⟩ | ⟨z1, _⟩⟩ := hz
     ·exact ⟨hE, z1⟩
     ·exact absurd z1 h0
    ·obtain ⟨z1, v, z2, z3⟩ := hz
     exact ⟨z1, a0b z2 z3⟩
    ·obtain ⟨rfl, V, hV, rfl⟩ := hh
     exact ⟨rfl, p, rfl, fun _ hk => hk, hD.endNo hV _⟩
  ·rw [if_neg h4]
   refine (a7y hB (by omega) t1 t2 t3 t4 t7 t6 (nx := (pc : Int) + 1) (e := 3) (by decide) (fun u hu => (b4t (hD.on hu) e hl _ _ _ _ _ ⟨5, a, b, c, x1, x2, x3, x4⟩ rfl a b c rfl rfl rfl _ _ _ ra rb rc 3 (fun v Z => Below v.heap.size v Z) (fun v _ => d0l p.B _ _ _ v (by simpa using h4))).mono fun E Z hz => ?_)).mono fun E W' hh => ?_
   ·obtain ⟨z1, v, z2, z3⟩ := hz
    exact ⟨z1, a0b z2 z3⟩
   ·obtain ⟨rfl, V, hV, rfl⟩ := hh
    exact ⟨rfl, p, rfl, fun _ hk => hk, hD.endNo hV _⟩
 by_cases e12 : op = 12
 ·subst e12
  obtain ⟨a0, a1⟩ := a8q hi (.inr (.inl rfl))
  obtain ⟨a, rfl, la, ra⟩ := a2b k4 a0 a1
  rcases List.eq_nil_or_concat l with rfl | ⟨l', y, rfl⟩
  ·have eR : doR F fs ⟨12, a, ob, oc, x1, x2, x3, x4⟩ (([] : List Fw).map Fw.x) q.x { s with st := s.st + 1 } = .inr { s with st := s.st + 1, en := 1, la := rgV q.x a } := rfl
   rw [eR]
   refine (a6r hB (by omega) t1 t2 t3 t4 t7 t6 (fun u Z => Dc w0 p { s with st := s.st + 1, en := 1, la := rgV q.x a } Z ∧ MK p.own u p.own Z) (fun u hu => c6i (hD.on hu) e _ _ _ _ _ ⟨12, a, ob, oc, x1, x2, x3, x4⟩ rfl a rfl _ ra)).mono fun E W' hh => ?_
   obtain ⟨rfl, u, hu, hZ, _⟩ := hh
   exact ⟨rfl, p, rfl, fun _ hk => hk, hZ⟩
  ·rw [List.concat_eq_append] at e hlen hfr ⊢
   have hdd : 0 ≤ q.x.d ∧ q.x.d < (y.x.rs.length : Int) := by
    have hdg := hg.dg
    rw [hfr, DG.append] at hdg
    simpa using hdg.2
   obtain ⟨dd, hdd'⟩ : ∃ dd : Nat, q.x.d = dd := ⟨q.x.d.toNat, by omega⟩
   have eR : doR F fs ⟨12, a, ob, oc, x1, x2, x3, x4⟩ ((l' ++ [y]).map Fw.x) q.x { s with st := s.st + 1 } = .inr { s with st := s.st + 1, fr := l'.map Fw.x ++ [{ y.x with rs := y.x.rs.set dd (rgV q.x a) }] } := by
    unfold doR
    rw [if_neg (by simp), if_neg (by simp), if_neg (by simp), if_pos rfl]
    simp [putR, hdd']
   rw [eR]
   rw [List.concat_eq_append] at hB
   refine (a6r hB (by omega) t1 t2 t3 t4 t7 t6 (fun u Z => ∃ p', p'.B = p.B ∧ p'.ap = p.ap ∧ Dc w0 p' { s with st := s.st + 1, fr := l'.map Fw.x ++ [{ y.x with rs := y.x.rs.set dd (rgV q.x a) }] } Z ∧ MK p.own u p'.own Z) (fun u hu => d0n (hD.on hu) e (by simp at hlen; omega) _ _ _ _ _ ⟨12, a, ob, oc, x1, x2, x3, x4⟩ rfl a dd rfl hdd' (by omega) _ ra)).mono fun E W' hh => ?_
   obtain ⟨rfl, u, hu, p', y1, ya, y2, _⟩ := hh
   exact ⟨rfl, p', y1, a4z ya, y2⟩
 by_cases e11 : op = 11
 ·subst e11
  obtain ⟨a0, a1, b0, b1, c0, c1, d0, d1⟩ := b1s hi rfl
  simp only at a0 a1 b0 b1 c0 c1 d0 d1
  obtain ⟨a, rfl⟩ : ∃ a : Nat, oa = a := ⟨oa.toNat, by omega⟩
  obtain ⟨b, rfl, lb, rb⟩ := a2b k4 b0 b1
  obtain ⟨c, rfl⟩ : ∃ c : Nat, oc = c := ⟨oc.toNat, by omega⟩
  have hw : wrap64 ((b : Int) + c) = (b : Int) + c := a6d (by omega) (by omega)
  rw [hw] at d1
  clear hw d0
  have eR : doR F fs ⟨11, a, b, c, x1, x2, x3, x4⟩ (l.map Fw.x) q.x { s with st := s.st + 1 } = (if (rgV q.x b).k = 5 then (if (l.map Fw.x).length + 1 = 40 then .inl 1 else .inr { s with st := s.st + 1, fr := l.map Fw.x ++ [{ q.x with pc := q.x.pc + 1 }, newF fs (rgV q.x b).n a ((q.x.rs.drop (b + 1)).take c)] }) else .inl 3) := rfl
  rw [eR]
  by_cases h5 : (rgV q.x b).k = 5
  ·rw [if_pos h5]
   by_cases h4 : (l.map Fw.x).length + 1 = 40
   ·rw [if_pos h4]
    rw [List.length_map] at h4
    refine (a7y hB (by omega) t1 t2 t3 t4 t7 t6 (nx := 0) (e := 1) (by decide) (fun u hu => b7q (hD.on hu) e hl _ _ _ _ _ ⟨11, a, b, c, x1, x2, x3, x4⟩ rfl b rfl _ rb (by simpa using h5) h4)).mono fun E W' hh => ?_
    obtain ⟨rfl, V, hV, rfl⟩ := hh
    exact ⟨rfl, p, rfl, fun _ hk => hk, hD.endNo hV _⟩
   ·rw [if_neg h4]
    rw [List.length_map] at h4
    have hvn := (rg b).f h5
    have hvn0 : 0 ≤ (rgV q.x b).n := by
     have := (rg b).m
     rw [h5] at this
     unfold mayB at this
     rw [if_neg (by decide)] at this
     split at this
     ·cases this
     ·simp at this; omega
    obtain ⟨n, hn⟩ : ∃ n : Nat, (rgV q.x b).n = n := ⟨(rgV q.x b).n.toNat, by omega⟩
    have hnl : n < fs.length := by omega
    obtain ⟨g, hg'⟩ : ∃ g, fs[n]? = some g := ⟨fs[n], List.getElem?_eq_getElem hnl⟩
    have hgk := a5r hp hg'
    obtain ⟨h1, _, _⟩ := hel _ _ hg'
    obtain ⟨pr, hpr⟩ : ∃ pr : Nat, g.p = pr := ⟨g.p.toNat, by have := hgk.p0; omega⟩
    obtain ⟨r, hr⟩ : ∃ r : Nat, g.r = r := ⟨g.r.toNat, by have := hgk.r1; omega⟩
    have d0' := h1.p
    have d1' := h1.r
    rw [hpr] at d0'
    rw [hr] at d1'
    have hpr2 := hgk.pr
    have hr3 := hgk.r2
    have eN : newF fs (rgV q.x b).n a ((q.x.rs.drop (b + 1)).take c) = ⟨n, 0, a, a0x pr r ((q.x.rs.drop (b + 1)).take c)⟩ := by
     unfold newF
     rw [hn]
     simp [hg', hpr, hr]
    rw [eN]
    refine (a6r hB (by omega) t1 t2 t3 t4 t7 t6 (fun u Z => ∃ p', p'.B = p.B ∧ p'.ap = p.ap ∧ Dc w0 p' { s with st := s.st + 1, fr := l.map Fw.x ++ [{ q.x with pc := (pc : Int) + 1 }] ++ [⟨n, 0, a, a0x pr r ((q.x.rs.drop (b + 1)).take c)⟩] } Z ∧ MK p.own u p'.own Z) (fun u hu => c6t (hD.on hu) e (by omega) fb off fs.length cc mn _ ⟨11, a, b, c, x1, x2, x3, x4⟩ rfl a b c rfl rfl rfl (by omega) _ rb (by simpa using h5) n hn hnl _ rfl pr r (by omega) (by omega) (a0v hu d0') (a0v hu d1'))).mono fun E W' hh => ?_
    obtain ⟨rfl, u, hu, p', y1, ya, y2, _⟩ := hh
    rw [hpc1] at y2
    refine ⟨rfl, p', y1, a4z ya, ?_⟩
    simp only [List.append_assoc, List.cons_append, List.nil_append] at y2
    exact y2
  ·rw [if_neg h5]
   refine (a7y hB (by omega) t1 t2 t3 t4 t7 t6 (nx := 0) (e := 3) (by decide) (fun u hu => c1x (hD.on hu) e hl _ _ _ _ _ ⟨11, a, b, c, x1, x2, x3, x4⟩ rfl b rfl _ rb (by simpa using h5))).mono fun E W' hh => ?_
   obtain ⟨rfl, V, hV, rfl⟩ := hh
   exact ⟨rfl, p, rfl, fun _ hk => hk, hD.endNo hV _⟩
 have n8 : ¬ op = 8 := fun z => e8 (.inl z)
 have n10 : ¬ op = 10 := fun z => e8 (.inr z)
 have hop : 21 ≤ op ∧ op ≤ 31 := by
  unfold a0s a1i at hi
  by_cases h30 : op = 30
  ·omega
  by_cases h31 : op = 31
  ·omega
  by_cases hr : 21 ≤ op ∧ op ≤ 29
  ·omega
  ·simp [e1, e2, e3, e4, e5, e6, e7, n8, e9, n10, e11, e12, e13, h30, h31, hr] at hi
 have hopc : ∀ (k : Int) (x y : Vl) (u : World), Calls Tryz.prog 55 #[.int .i64 k, x.v, y.v] u _ := fun k x y u => hF.doc ht k x y u
 by_cases e30 : op = 30 ∨ op = 31
 ·obtain ⟨a0, a1, b0, b1⟩ := a5t hi (by rcases e30 with z | z; exact .inr (.inr (.inl z)); exact .inr (.inr (.inr z)))
  obtain ⟨a, rfl, la, ra⟩ := a2b k4 a0 a1
  obtain ⟨b, rfl, lb, rb⟩ := a2b k4 b0 b1
  have eR : doR F fs ⟨op, a, b, oc, x1, x2, x3, x4⟩ (l.map Fw.x) q.x { s with st := s.st + 1 } = match (if (F (op - 20) (rgV q.x b) nilV).2 = 0 then .inr (putR q.x a (F (op - 20) (rgV q.x b) nilV).1, s.tb, s.out) else .inl (F (op - 20) (rgV q.x b) nilV).2 : Int ⊕ (Frm × List Tb × List ByteArray)) with | .inl c => .inl c | .inr (y, tb, out) => .inr { s with st := s.st + 1, fr := l.map Fw.x ++ [{ y with pc := y.pc + 1 }], tb := tb, out := out } := by
   simp only [doR, a4a, e1, e2, e3, e4, e5, e6, e7, n8, e9, n10, e11, e12, e13, e30, if_false, if_true, or_self]
   rfl
  rw [eR]
  by_cases h0 : (F (op - 20) (rgV q.x b) nilV).2 = 0
  ·rw [if_pos h0]
   have hc := hopc (op - 20) (rgV q.x b) nilV
   rw [h0] at hc
   refine (c4i hB (by omega) (by omega) la lb (hD.rga hq rb).th (hD.rga hq ra) (fun u _ => hc u)).mono fun E W' hh => ?_
   obtain ⟨rfl, V, hV, rfl⟩ := hh
   rw [hpc1]
   obtain ⟨p', y1, ya, y2⟩ := hD.endOk e hV a _ (q.x.pc + 1)
   exact ⟨rfl, p', y1, a4z ya, y2⟩
  ·rw [if_neg h0]
   refine (c4j hB (by omega) (by omega) la lb (hD.rga hq rb).th (hD.rga hq ra) (fun u _ => hopc (op - 20) (rgV q.x b) nilV u) (by simpa using h0)).mono fun E W' hh => ?_
   obtain ⟨rfl, V, hV, rfl⟩ := hh
   exact ⟨rfl, p, rfl, fun _ hk => hk, hD.endNo hV _⟩
 obtain ⟨a0, a1, b0, b1, c0, c1⟩ := a3y hi (.inr (.inr (.inr ⟨hop.1, by simp only; omega⟩)))
 obtain ⟨a, rfl, la, ra⟩ := a2b k4 a0 a1
 obtain ⟨b, rfl, lb, rb⟩ := a2b k4 b0 b1
 obtain ⟨c, rfl, lc, rc⟩ := a2b k4 c0 c1
 have eR : doR F fs ⟨op, a, b, c, x1, x2, x3, x4⟩ (l.map Fw.x) q.x { s with st := s.st + 1 } = match (if (F (op - 20) (rgV q.x b) (rgV q.x c)).2 = 0 then .inr (putR q.x a (F (op - 20) (rgV q.x b) (rgV q.x c)).1, s.tb, s.out) else .inl (F (op - 20) (rgV q.x b) (rgV q.x c)).2 : Int ⊕ (Frm × List Tb × List ByteArray)) with | .inl c => .inl c | .inr (y, tb, out) => .inr { s with st := s.st + 1, fr := l.map Fw.x ++ [{ y with pc := y.pc + 1 }], tb := tb, out := out } := by
  simp only [doR, a4a, e1, e2, e3, e4, e5, e6, e7, n8, e9, n10, e11, e12, e13, e30, if_false, or_self]
  rfl
 rw [eR]
 by_cases h0 : (F (op - 20) (rgV q.x b) (rgV q.x c)).2 = 0
 ·rw [if_pos h0]
  have hc := hopc (op - 20) (rgV q.x b) (rgV q.x c)
  rw [h0] at hc
  refine (c4g hB (by omega) (by omega) la lb lc (hD.rga hq rb).th (hD.rga hq rc).th (hD.rga hq ra) (fun u _ => hc u)).mono fun E W' hh => ?_
  obtain ⟨rfl, V, hV, rfl⟩ := hh
  rw [hpc1]
  obtain ⟨p', y1, ya, y2⟩ := hD.endOk e hV a _ (q.x.pc + 1)
  exact ⟨rfl, p', y1, a4z ya, y2⟩
 ·rw [if_neg h0]
  refine (c4h hB (by omega) (by omega) la lb lc (hD.rga hq rb).th (hD.rga hq rc).th (hD.rga hq ra) (fun u _ => hopc (op - 20) (rgV q.x b) (rgV q.x c) u) (by simpa using h0)).mono fun E W' hh => ?_
  obtain ⟨rfl, V, hV, rfl⟩ := hh
  exact ⟨rfl, p, rfl, fun _ hk => hk, hD.endNo hV _⟩
theorem c2e (hF : OpF F) (hp : a2i fs main = true) (hP : b0h w0 (.slice ca fs.length cc) fs) (ht : PTab w0) (h : Dc w0 p s W) (hg : Good fs s) (h60 : s.st < 60000) :
  Calls Tryz.prog 34 #[PV ca fs.length cc mn, .pointer (some ⟨p.B, 0, none⟩)] W (EndQ w0 p.B p.ap (a6s F fs s)) := by
 obtain ⟨ini, x, hfr⟩ := hg.top
 obtain ⟨l, q, e1, e2, e3, _⟩ := h.top hfr
 obtain ⟨f, o, _, _, ho, _⟩ := (hg.fg x (by rw [hfr]; simp)).order hp
 have hres : a6s F fs s = endS s s.st (doR F fs o (l.map Fw.x) q.x { s with st := s.st + 1 }) := by
  unfold a6s
  rw [show s.fr.getLast? = some x by rw [hfr]; simp]
  simp only [ho, show s.fr.dropLast = ini by rw [hfr]; simp]
  rw [e3, e2]
  cases doR F fs o ini x { s with st := s.st + 1 } <;> rfl
 rw [hres]
 exact c6u hF hp hP ht h hg h60 e1 (by rw [e2]; exact ho)
end
end
end Go.Proofs.YthpgbienakcbeaaGreatDoor
