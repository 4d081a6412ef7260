/- The document's machine: a text is told; a table is set. -/
import Derived.Test.YthpgbienakcbeaaGreatDoorS45
import Derived.Test.YthpgbienakcbeaaGreatDoorS20
namespace Go.Proofs.YthpgbienakcbeaaGreatDoor
open Go.RowKit Go
set_option maxRecDepth 100000
set_option maxHeartbeats 8000000
set_option linter.all false
variable {l : List Fw} {q : Fw} {W : World} {base e sz n : Nat} {v : Value} {xs : List Value}
section
variable [DecidableEq Vl]
section
variable {w0 : World} {p : Mp} {s : St} {W : World}
theorem c6h (h : Dc w0 p s W) (e : p.fw = l ++ [q]) (hl : l.length ≤ 1000) (hu : s.out.length ≤ 60000) (ca : Option Addr) (cn cc : Nat) (mn nx : Int) (o : Od) (ho : o.op = 13) (ra : Nat) (hra : o.a = ra) (v : Vl) (hv : q.x.rs[ra]? = some v) :
  Calls Tryz.prog 58 #[PV ca cn cc mn, .pointer (some ⟨p.B, 0, none⟩), o.v, .int .i64 nx] W fun E W' => E = .returned (.tuple #[.int .i64 nx, .int .i64 0]) ∧ ∃ p', p'.B = p.B ∧ p'.ap = p.ap ∧ p'.fw = p.fw ∧ p'.F = p.F ∧ Dc w0 p' { s with out := s.out ++ [a3n v.k v.n v.s] } W' ∧ MK p.own W p'.own W' := by
 have hA := OB.new W (.slice ca cn cc) mn o
 obtain ⟨w1, hw1⟩ := exq ((W.alloc (.cells #[.slice ca cn cc, .int .i64 mn] 24)).alloc (.cells #[.int .i64 o.op, .int .i64 o.a, .int .i64 o.b, .int .i64 o.c] 82))
 rw [hw1] at hA
 have h1 := h.on hA.b
 obtain ⟨c0, _⟩ := h1.cells
 obtain ⟨t0, t1, t2, t3, t4⟩ := h1.topCells e
 have hq : q ∈ p.fw := by rw [e]; simp
 have hrg := h1.rg q hq
 obtain ⟨v0, v1, v2⟩ : w1.cell? ⟨q.g, ra * 3, none⟩ = some (.int .i64 v.k) ∧ w1.cell? ⟨q.g, ra * 3 + 1, none⟩ = some (.int .i64 v.n) ∧ w1.cell? ⟨q.g, ra * 3 + 2, none⟩ = some (.string v.s) := by
  obtain ⟨y0, y1, y2⟩ := a2k hv
  exact ⟨(hrg.cell y0).1, (hrg.cell y1).1, (hrg.cell y2).1⟩
 have hlv : ra < q.x.rs.length := (List.getElem?_eq_some_iff.1 hv).1
 have hlen := h1.len.1
 rw [e, List.length_append, List.length_singleton] at hlen
 rw [← hlen] at c0
 obtain ⟨k, hk⟩ := exq (l.length)
 obtain ⟨rn, hrn⟩ := exq (q.x.rs.length)
 have hrm : rn ≤ 9223372036854775807 := by rw [← hrn]; exact a3f hrg.max
 rw [hk] at c0 t0 t1 t2 t3 t4 hl
 rw [hrn] at t3 hlv
 obtain ⟨b0, b1, b2, b3⟩ := four hA.o
 rw [hra] at b1
 have h5 : (o.op == 5) = false := by rw [ho]; rfl
 have h8 : (o.op == 8) = false := by rw [ho]; rfl
 have h10 : (o.op == 10) = false := by rw [ho]; rfl
 have h9 : (o.op == 9) = false := by rw [ho]; rfl
 have h13 : (o.op == 13) = true := by rw [ho]; rfl
 have q1 : ∀ u, Below w1.heap.size w1 u → Calls Tryz.prog 91 #[.pointer (some ⟨p.B, 0, none⟩), v.v] u _ := fun u hu' => c1t (h1.on hu') v rfl hu
 clear hlen hk hrn e ho hra hv hrg t0 t1 t2 t4
 replace q1 : Hid _ := q1
 go_enter Tryz.func58, Tryz.ntmps58
 go_wp2
 refine wp_region_still_tail 9 (by kernel_rfl) (by kernel_rfl) ?_
 change wpStill _ _ w1.drew _ _ _
 simp only [List.take_succ_cons, List.take_zero, List.drop_succ_cons, List.drop_zero]
 repeat still_step
 refine wpStill_nil ?_
 go_wp2_with (go_at_call 91; refine (q1.out _ (a0i (Below.refl _ _))).mono ?_; rintro E w3 ⟨rfl, p', e1, e2, e3, e4, hM, hK⟩)
 go_ret2
 exact ⟨rfl, p', e1, e2, e3, e4, hM, (MK.below (a0i hA.b)).trans hK⟩
theorem b4t (h : Dc w0 p s W) (e : p.fw = l ++ [q]) (hl : l.length ≤ 1000) (ca : Option Addr) (cn cc : Nat) (mn nx : Int) (o : Od) (ho : o.op = 5) (ra rb rc : Nat) (hra : o.a = ra) (hrb : o.b = rb) (hrc : o.c = rc) (v y z : Vl) (hv : q.x.rs[ra]? = some v) (hy : q.x.rs[rb]? = some y) (hz : q.x.rs[rc]? = some z) (c : Int) (QQ : World → World → Prop) (hput : ∀ u, Below W.heap.size W u → Calls Tryz.prog 90 #[.pointer (some ⟨p.B, 0, none⟩), v.v, y.v, z.v] u fun E W' => E = .returned (.int .i64 c) ∧ QQ u W') :
  Calls Tryz.prog 58 #[PV ca cn cc mn, .pointer (some ⟨p.B, 0, none⟩), o.v, .int .i64 nx] W fun E W' => E = .returned (.tuple #[.int .i64 nx, .int .i64 c]) ∧ ∃ u, Below W.heap.size W u ∧ QQ u W' := by
 have hA := OB.new W (.slice ca cn cc) mn o
 obtain ⟨w1, hw1⟩ := exq ((W.alloc (.cells #[.slice ca cn cc, .int .i64 mn] 24)).alloc (.cells #[.int .i64 o.op, .int .i64 o.a, .int .i64 o.b, .int .i64 o.c] 82))
 rw [hw1] at hA
 have h1 := h.on hA.b
 obtain ⟨c0, _⟩ := h1.cells
 obtain ⟨t0, t1, t2, t3, t4⟩ := h1.topCells e
 have hq : q ∈ p.fw := by rw [e]; simp
 have hrg := h1.rg q hq
 obtain ⟨v0, v1, v2⟩ : w1.cell? ⟨q.g, ra * 3, none⟩ = some (.int .i64 v.k) ∧ w1.cell? ⟨q.g, ra * 3 + 1, none⟩ = some (.int .i64 v.n) ∧ w1.cell? ⟨q.g, ra * 3 + 2, none⟩ = some (.string v.s) := by
  obtain ⟨y0, y1, y2⟩ := a2k hv
  exact ⟨(hrg.cell y0).1, (hrg.cell y1).1, (hrg.cell y2).1⟩
 have hlv : ra < q.x.rs.length := (List.getElem?_eq_some_iff.1 hv).1
 obtain ⟨y0, y1, y2⟩ : w1.cell? ⟨q.g, rb * 3, none⟩ = some (.int .i64 y.k) ∧ w1.cell? ⟨q.g, rb * 3 + 1, none⟩ = some (.int .i64 y.n) ∧ w1.cell? ⟨q.g, rb * 3 + 2, none⟩ = some (.string y.s) := by
  obtain ⟨y0, y1, y2⟩ := a2k hy
  exact ⟨(hrg.cell y0).1, (hrg.cell y1).1, (hrg.cell y2).1⟩
 have hly : rb < q.x.rs.length := (List.getElem?_eq_some_iff.1 hy).1
 obtain ⟨z0, z1, z2⟩ : w1.cell? ⟨q.g, rc * 3, none⟩ = some (.int .i64 z.k) ∧ w1.cell? ⟨q.g, rc * 3 + 1, none⟩ = some (.int .i64 z.n) ∧ w1.cell? ⟨q.g, rc * 3 + 2, none⟩ = some (.string z.s) := by
  obtain ⟨y0, y1, y2⟩ := a2k hz
  exact ⟨(hrg.cell y0).1, (hrg.cell y1).1, (hrg.cell y2).1⟩
 have hlz : rc < q.x.rs.length := (List.getElem?_eq_some_iff.1 hz).1
 have hlen := h1.len.1
 rw [e, List.length_append, List.length_singleton] at hlen
 rw [← hlen] at c0
 obtain ⟨k, hk⟩ := exq (l.length)
 obtain ⟨rn, hrn⟩ := exq (q.x.rs.length)
 have hrm : rn ≤ 9223372036854775807 := by rw [← hrn]; exact a3f hrg.max
 rw [hk] at c0 t0 t1 t2 t3 t4 hl
 rw [hrn] at t3 hlv hly hlz
 obtain ⟨b0, b1, b2, b3⟩ := four hA.o
 rw [hra] at b1
 rw [hrb] at b2
 rw [hrc] at b3
 have h5 : (o.op == 5) = true := by rw [ho]; rfl
 clear hlen hk hrn e ho hra hrb hrc hv hy hz hrg t0 t1 t2 t4
 replace hput : Hid _ := hput
 have E1 := hA.b
 clear hA
 go_enter Tryz.func58, Tryz.ntmps58
 go_wp2
 refine wp_region_still_tail 25 (by kernel_rfl) (by kernel_rfl) ?_
 change wpStill _ _ w1.drew _ _ _
 simp only [List.take_succ_cons, List.take_zero, List.drop_succ_cons, List.drop_zero]
 repeat still_step
 refine wpStill_nil ?_
 go_wp2_with (go_at_call 90; refine (hput.out _ (a0i E1)).mono ?_; rintro E w3 ⟨rfl, hQ⟩)
 go_ret2
 exact ⟨rfl, _, a0i E1, hQ⟩
end
section
variable {w0 : World} {p : Mp} {s : St} {W : World}
theorem c6i (h : Dc w0 p s W) (e : p.fw = [q]) (ca : Option Addr) (cn cc : Nat) (mn nx : Int) (o : Od) (ho : o.op = 12) (ra : Nat) (hra : o.a = ra) (v : Vl) (hv : q.x.rs[ra]? = some v) :
  Calls Tryz.prog 58 #[PV ca cn cc mn, .pointer (some ⟨p.B, 0, none⟩), o.v, .int .i64 nx] W fun E W' => E = .returned (.tuple #[.int .i64 (-1), .int .i64 0]) ∧ Dc w0 p { s with en := 1, la := v } W' ∧ MK p.own W p.own W' := by
 obtain ⟨l, hl0, hl⟩ : ∃ l : List Fw, l = [] ∧ l.length ≤ 1000 := ⟨[], rfl, by simp⟩
 replace e : p.fw = l ++ [q] := by rw [hl0, e]; rfl
 have hA := OB.new W (.slice ca cn cc) mn o
 obtain ⟨w1, hw1⟩ := exq ((W.alloc (.cells #[.slice ca cn cc, .int .i64 mn] 24)).alloc (.cells #[.int .i64 o.op, .int .i64 o.a, .int .i64 o.b, .int .i64 o.c] 82))
 rw [hw1] at hA
 have h1 := h.on hA.b
 obtain ⟨c0, _⟩ := h1.cells
 obtain ⟨t0, t1, t2, t3, t4⟩ := h1.topCells e
 have hq : q ∈ p.fw := by rw [e]; simp
 have hrg := h1.rg q hq
 obtain ⟨v0, v1, v2⟩ : w1.cell? ⟨q.g, ra * 3, none⟩ = some (.int .i64 v.k) ∧ w1.cell? ⟨q.g, ra * 3 + 1, none⟩ = some (.int .i64 v.n) ∧ w1.cell? ⟨q.g, ra * 3 + 2, none⟩ = some (.string v.s) := by
  obtain ⟨y0, y1, y2⟩ := a2k hv
  exact ⟨(hrg.cell y0).1, (hrg.cell y1).1, (hrg.cell y2).1⟩
 have hlv : ra < q.x.rs.length := (List.getElem?_eq_some_iff.1 hv).1
 have hlen := h1.len.1
 rw [e, List.length_append, List.length_singleton] at hlen
 rw [← hlen] at c0
 obtain ⟨k, hk⟩ := exq (l.length)
 obtain ⟨rn, hrn⟩ := exq (q.x.rs.length)
 have hrm : rn ≤ 9223372036854775807 := by rw [← hrn]; exact a3f hrg.max
 rw [hk] at c0 t0 t1 t2 t3 t4 hl
 rw [hrn] at t3 hlv
 obtain ⟨b0, b1, b2, b3⟩ := four hA.o
 rw [hra] at b1
 have h5 : (o.op == 5) = false := by rw [ho]; rfl
 have h8 : (o.op == 8) = false := by rw [ho]; rfl
 have h10 : (o.op == 10) = false := by rw [ho]; rfl
 have h9 : (o.op == 9) = false := by rw [ho]; rfl
 have h13 : (o.op == 13) = false := by rw [ho]; rfl
 have h11 : (o.op == 11) = false := by rw [ho]; rfl
 obtain rfl : k = 0 := by rw [← hk, hl0]; rfl
 have lB := h1.lt _ a1d
 have lF := h1.lt _ a2f
 have lg := h1.lt _ (a2t hq)
 have z1 : ¬ w1.heap.size = p.B := by omega
 have z2 : ¬ w1.heap.size = p.F := by omega
 have z3 : ¬ w1.heap.size = q.g := by omega
 have z4 : W.heap.size + 1 < w1.heap.size := a0n hA.o
 have z5 : ¬ w1.heap.size = W.heap.size + 1 := by omega
 clear hlen hk hrn e ho hra hv hrg t0 t1 t2 t4 hl0
 go_enter Tryz.func58, Tryz.ntmps58
 go_wp2
 go_region
 clear z1 z2 z3 z4 z5 c0 t3 b0 b1 b2 b3 v0 v1 v2
 obtain ⟨w2, hw2⟩ := exq ((w1.alloc (bx v)).drew)
 have E2 : Below w1.heap.size w1 w2 := by rw [← hw2]; exact a0i (a0c (Below.refl _ _) _)
 have g2 : w2.heap[w1.heap.size]? = some (bx v) := by rw [← hw2]; exact a0h _ _
 have h2 := h1.on E2
 rw [hw2]
 clear hw2
 obtain ⟨v0, v1, v2, _, _, _⟩ := in3 g2
 obtain ⟨_, _, _, _, m4, _, m6, m7, m8, fz⟩ := h2.cells
 have f4 := fz 4
 have f6 := fz 6
 have f7 := fz 7
 have f8 := fz 8
 have nB : ¬ w1.heap.size = p.B := by omega
 clear fz
 go_wp2
 go_ret2
 refine ⟨rfl, ?_, ?_⟩
 ·refine h2.scal (s' := { s with en := 1, la := v }) rfl rfl rfl ?_ ?_ ?_
  ·exact (((MK.set a1d).trans (MK.set a1d)).trans (MK.set a1d)).trans (MK.set a1d)
  ·exact fun b hb => (a0f _ _ hb).trans ((a0f _ _ hb).trans ((a0f _ _ hb).trans (a0f _ _ hb)))
  ·have := a0k (i := 8) (.string v.s) (a0k (i := 7) (.int .i64 v.n) (a0k (i := 6) (.int .i64 v.k) (a0k (i := 4) (.int .i64 1) h2.box)))
   refine this.trans ?_
   simp
 ·exact (MK.below (a0b hA.b E2)).trans ((((MK.set a1d).trans (MK.set a1d)).trans (MK.set a1d)).trans (MK.set a1d))
theorem d0n (h : Dc w0 p s W) {y : Fw} (e : p.fw = (l ++ [y]) ++ [q]) (hl' : l.length ≤ 900) (ca : Option Addr) (cn cc : Nat) (mn nx : Int) (o : Od) (ho : o.op = 12) (ra dd : Nat) (hra : o.a = ra) (hdd : q.x.d = dd) (hdl : dd < y.x.rs.length) (v : Vl) (hv : q.x.rs[ra]? = some v) :
  Calls Tryz.prog 58 #[PV ca cn cc mn, .pointer (some ⟨p.B, 0, none⟩), o.v, .int .i64 nx] W fun E W' => E = .returned (.tuple #[.int .i64 (-1), .int .i64 0]) ∧ ∃ p', p'.B = p.B ∧ p'.ap = p.ap ∧ Dc w0 p' { s with fr := l.map Fw.x ++ [{ y.x with rs := y.x.rs.set dd v }] } W' ∧ MK p.own W p'.own W' := by
 obtain ⟨L, hL⟩ := exq (l ++ [y])
 rw [hL] at e
 have hLl : L.length = l.length + 1 := by rw [← hL]; simp
 have hl : L.length ≤ 1000 := by omega
 have hA := OB.new W (.slice ca cn cc) mn o
 obtain ⟨w1, hw1⟩ := exq ((W.alloc (.cells #[.slice ca cn cc, .int .i64 mn] 24)).alloc (.cells #[.int .i64 o.op, .int .i64 o.a, .int .i64 o.b, .int .i64 o.c] 82))
 rw [hw1] at hA
 have h1 := h.on hA.b
 obtain ⟨c0, _⟩ := h1.cells
 obtain ⟨t0, t1, t2, t3, t4⟩ := h1.topCells e
 have hq : q ∈ p.fw := by rw [e]; simp
 have hrg := h1.rg q hq
 obtain ⟨v0, v1, v2⟩ : w1.cell? ⟨q.g, ra * 3, none⟩ = some (.int .i64 v.k) ∧ w1.cell? ⟨q.g, ra * 3 + 1, none⟩ = some (.int .i64 v.n) ∧ w1.cell? ⟨q.g, ra * 3 + 2, none⟩ = some (.string v.s) := by
  obtain ⟨y0, y1, y2⟩ := a2k hv
  exact ⟨(hrg.cell y0).1, (hrg.cell y1).1, (hrg.cell y2).1⟩
 have hlv : ra < q.x.rs.length := (List.getElem?_eq_some_iff.1 hv).1
 have hlen := h1.len.1
 rw [e, List.length_append, List.length_singleton] at hlen
 rw [← hlen] at c0
 obtain ⟨k, hk⟩ := exq (L.length)
 obtain ⟨rn, hrn⟩ := exq (q.x.rs.length)
 have hrm : rn ≤ 9223372036854775807 := by rw [← hrn]; exact a3f hrg.max
 rw [hk] at c0 t0 t1 t2 t3 t4 hl
 rw [hrn] at t3 hlv
 obtain ⟨b0, b1, b2, b3⟩ := four hA.o
 rw [hra] at b1
 have h5 : (o.op == 5) = false := by rw [ho]; rfl
 have h8 : (o.op == 8) = false := by rw [ho]; rfl
 have h10 : (o.op == 10) = false := by rw [ho]; rfl
 have h9 : (o.op == 9) = false := by rw [ho]; rfl
 have h13 : (o.op == 13) = false := by rw [ho]; rfl
 have h11 : (o.op == 11) = false := by rw [ho]; rfl
 have lB := h1.lt _ a1d
 have lF := h1.lt _ a2f
 have lg := h1.lt _ (a2t hq)
 have z1 : ¬ w1.heap.size = p.B := by omega
 have z2 : ¬ w1.heap.size = p.F := by omega
 have z3 : ¬ w1.heap.size = q.g := by omega
 have z4 : W.heap.size + 1 < w1.heap.size := a0n hA.o
 have z5 : ¬ w1.heap.size = W.heap.size + 1 := by omega
 obtain ⟨j, hj⟩ := exq (l.length)
 obtain rfl : k = j + 1 := by omega
 have hcap : j + 1 + 1 ≤ p.fc := by
  obtain ⟨_, _, _, hc, _⟩ := h1.fo
  have := h1.len.1
  rw [e, List.length_append, List.length_singleton] at this
  omega
 rw [hdd] at t2
 replace e : Hid _ := e
 replace hk : Hid _ := hk
 replace hj : Hid _ := hj
 replace hL : Hid _ := hL
 replace hLl : Hid _ := hLl
 clear hlen hrn ho hra hdd hv hrg t0 t1 t4
 go_enter Tryz.func58, Tryz.ntmps58
 go_wp2
 go_region
 clear z1 z2 z3 z4 z5 b0 b1 b2 b3 v0 v1 v2
 obtain ⟨w2, hw2⟩ := exq ((w1.alloc (bx v)).drew)
 have E2 : Below w1.heap.size w1 w2 := by rw [← hw2]; exact a0i (a0c (Below.refl _ _) _)
 have g2 : w2.heap[w1.heap.size]? = some (bx v) := by rw [← hw2]; exact a0h _ _
 have h2 := h1.on E2
 rw [hw2]
 clear hw2
 have d2 := a0l E2 t2
 have d0 := a0l E2 c0
 have f0 := h2.cells.2.2.2.2.2.2.2.2.2 0
 have hkz : ((j : Int) + 1 == 0) = false := by simp; omega
 clear c0 t2 t3
 obtain ⟨w3, hw3⟩ := exq (w2.setCell ⟨p.B, 0, none⟩ (.slice (some ⟨p.F, 0, none⟩) (j + 1) p.fc))
 have hpop := h2.pop e.out
 rw [hk.out, hw3] at hpop
 obtain ⟨h3, hK3⟩ := hpop
 have eL : ({ p with fw := L } : Mp).fw = l ++ [y] := hL.out.symm
 obtain ⟨_, _, _, u3, _⟩ := h3.topCells eL
 obtain ⟨n0, _⟩ := h3.cells
 have hy : y ∈ ({ p with fw := L } : Mp).fw := by rw [eL]; simp
 have hrg3 := h3.rg y hy
 obtain ⟨x, hx⟩ : ∃ x, y.x.rs[dd]? = some x := ⟨_, List.getElem?_eq_getElem hdl⟩
 obtain ⟨y0, y1, y2⟩ := a2k hx
 obtain ⟨r0, rf0⟩ := hrg3.cell y0
 obtain ⟨r1, rf1⟩ := hrg3.cell y1
 obtain ⟨r2, rf2⟩ := hrg3.cell y2
 have hfl : (L.map Fw.x).length = j + 1 := by rw [List.length_map, hk.out]
 rw [hfl] at n0
 rw [hj.out] at u3
 have nB : w1.heap.size ≠ p.B := by omega
 have g3 : w3.heap[w1.heap.size]? = some (bx v) := by rw [← hw3]; exact (a0f _ _ nB).trans g2
 obtain ⟨v0, v1, v2, _, _, _⟩ := in3 g3
 obtain ⟨yn, hyn⟩ := exq (y.x.rs.length)
 have hym : yn ≤ 9223372036854775807 := by rw [← hyn]; exact a3f hrg3.max
 rw [hyn] at u3 hdl
 replace hyn : Hid _ := hyn
 clear hx y0 y1 y2 hrg3 hfl
 go_wp2
 go_region
 go_wp2
 go_ret2
 refine ⟨rfl, ?_⟩
 obtain ⟨p', e1, e2, e3, e4, hM, hK⟩ := h3.setReg eL dd v _ rfl
 exact ⟨p', e1, e2, hM.on (a0i (Below.refl _ _)), (MK.below (a0b hA.b E2)).trans (hK3.trans (hK.trans (MK.below (a0i (Below.refl _ _)))))⟩
end
section
variable {w0 : World} {p : Mp} {s : St} {W : World}
theorem c1x (h : Dc w0 p s W) (e : p.fw = l ++ [q]) (hl : l.length ≤ 1000) (ca : Option Addr) (cn cc : Nat) (mn nx : Int) (o : Od) (ho : o.op = 11) (rb : Nat) (hrb : o.b = rb) (v : Vl) (hv : q.x.rs[rb]? = some v) (h5v : (v.k != 5) = true) :
  Calls Tryz.prog 58 #[PV ca cn cc mn, .pointer (some ⟨p.B, 0, none⟩), o.v, .int .i64 nx] W fun E W' => E = .returned (.tuple #[.int .i64 0, .int .i64 3]) ∧ Below W.heap.size W W' := by
 have hA := OB.new W (.slice ca cn cc) mn o
 obtain ⟨w1, hw1⟩ := exq ((W.alloc (.cells #[.slice ca cn cc, .int .i64 mn] 24)).alloc (.cells #[.int .i64 o.op, .int .i64 o.a, .int .i64 o.b, .int .i64 o.c] 82))
 rw [hw1] at hA
 have h1 := h.on hA.b
 obtain ⟨c0, _⟩ := h1.cells
 obtain ⟨t0, t1, t2, t3, t4⟩ := h1.topCells e
 have hq : q ∈ p.fw := by rw [e]; simp
 have hrg := h1.rg q hq
 obtain ⟨v0, v1, v2⟩ : w1.cell? ⟨q.g, rb * 3, none⟩ = some (.int .i64 v.k) ∧ w1.cell? ⟨q.g, rb * 3 + 1, none⟩ = some (.int .i64 v.n) ∧ w1.cell? ⟨q.g, rb * 3 + 2, none⟩ = some (.string v.s) := by
  obtain ⟨y0, y1, y2⟩ := a2k hv
  exact ⟨(hrg.cell y0).1, (hrg.cell y1).1, (hrg.cell y2).1⟩
 have hlv : rb < q.x.rs.length := (List.getElem?_eq_some_iff.1 hv).1
 have hlen := h1.len.1
 rw [e, List.length_append, List.length_singleton] at hlen
 rw [← hlen] at c0
 obtain ⟨k, hk⟩ := exq (l.length)
 obtain ⟨rn, hrn⟩ := exq (q.x.rs.length)
 have hrm : rn ≤ 9223372036854775807 := by rw [← hrn]; exact a3f hrg.max
 rw [hk] at c0 t0 t1 t2 t3 t4 hl
 rw [hrn] at t3 hlv
 obtain ⟨b0, b1, b2, b3⟩ := four hA.o
 rw [hrb] at b2
 have h5 : (o.op == 5) = false := by rw [ho]; rfl
 have h8 : (o.op == 8) = false := by rw [ho]; rfl
 have h10 : (o.op == 10) = false := by rw [ho]; rfl
 have h9 : (o.op == 9) = false := by rw [ho]; rfl
 have h13 : (o.op == 13) = false := by rw [ho]; rfl
 have h11 : (o.op == 11) = true := by rw [ho]; rfl
 have lB := h1.lt _ a1d
 have lF := h1.lt _ a2f
 have lg := h1.lt _ (a2t hq)
 have z1 : ¬ w1.heap.size = p.B := by omega
 have z2 : ¬ w1.heap.size = p.F := by omega
 have z3 : ¬ w1.heap.size = q.g := by omega
 have z4 : W.heap.size + 1 < w1.heap.size := a0n hA.o
 have z5 : ¬ w1.heap.size = W.heap.size + 1 := by omega
 clear hlen hk hrn e ho hrb hv hrg t0 t1 t2 t4
 go_enter Tryz.func58, Tryz.ntmps58
 go_wp2
 go_region
 clear z1 z2 z3 z4 z5 b1 b2 b3 v0 v1 v2
 obtain ⟨w2, hw2⟩ := exq ((w1.alloc (bx v)).drew)
 have E2 : Below w1.heap.size w1 w2 := by rw [← hw2]; exact a0i (a0c (Below.refl _ _) _)
 have g2 : w2.heap[w1.heap.size]? = some (bx v) := by rw [← hw2]; exact a0h _ _
 have h2 := h1.on E2
 rw [hw2]
 clear hw2
 obtain ⟨v0, v1, v2, _, _, _⟩ := in3 g2
 go_wp2
 go_ret2
 exact ⟨rfl, a0b hA.b E2⟩
theorem b7q (h : Dc w0 p s W) (e : p.fw = l ++ [q]) (hl : l.length ≤ 1000) (ca : Option Addr) (cn cc : Nat) (mn nx : Int) (o : Od) (ho : o.op = 11) (rb : Nat) (hrb : o.b = rb) (v : Vl) (hv : q.x.rs[rb]? = some v) (h5v : (v.k != 5) = false) (h40 : l.length + 1 = 40) :
  Calls Tryz.prog 58 #[PV ca cn cc mn, .pointer (some ⟨p.B, 0, none⟩), o.v, .int .i64 nx] W fun E W' => E = .returned (.tuple #[.int .i64 0, .int .i64 1]) ∧ Below W.heap.size W W' := by
 have hA := OB.new W (.slice ca cn cc) mn o
 obtain ⟨w1, hw1⟩ := exq ((W.alloc (.cells #[.slice ca cn cc, .int .i64 mn] 24)).alloc (.cells #[.int .i64 o.op, .int .i64 o.a, .int .i64 o.b, .int .i64 o.c] 82))
 rw [hw1] at hA
 have h1 := h.on hA.b
 obtain ⟨c0, _⟩ := h1.cells
 obtain ⟨t0, t1, t2, t3, t4⟩ := h1.topCells e
 have hq : q ∈ p.fw := by rw [e]; simp
 have hrg := h1.rg q hq
 obtain ⟨v0, v1, v2⟩ : w1.cell? ⟨q.g, rb * 3, none⟩ = some (.int .i64 v.k) ∧ w1.cell? ⟨q.g, rb * 3 + 1, none⟩ = some (.int .i64 v.n) ∧ w1.cell? ⟨q.g, rb * 3 + 2, none⟩ = some (.string v.s) := by
  obtain ⟨y0, y1, y2⟩ := a2k hv
  exact ⟨(hrg.cell y0).1, (hrg.cell y1).1, (hrg.cell y2).1⟩
 have hlv : rb < q.x.rs.length := (List.getElem?_eq_some_iff.1 hv).1
 have hlen := h1.len.1
 rw [e, List.length_append, List.length_singleton] at hlen
 rw [← hlen] at c0
 obtain ⟨k, hk⟩ := exq (l.length)
 obtain ⟨rn, hrn⟩ := exq (q.x.rs.length)
 have hrm : rn ≤ 9223372036854775807 := by rw [← hrn]; exact a3f hrg.max
 rw [hk] at c0 t0 t1 t2 t3 t4 hl
 rw [hrn] at t3 hlv
 obtain ⟨b0, b1, b2, b3⟩ := four hA.o
 rw [hrb] at b2
 have h5 : (o.op == 5) = false := by rw [ho]; rfl
 have h8 : (o.op == 8) = false := by rw [ho]; rfl
 have h10 : (o.op == 10) = false := by rw [ho]; rfl
 have h9 : (o.op == 9) = false := by rw [ho]; rfl
 have h13 : (o.op == 13) = false := by rw [ho]; rfl
 have h11 : (o.op == 11) = true := by rw [ho]; rfl
 have lB := h1.lt _ a1d
 have lF := h1.lt _ a2f
 have lg := h1.lt _ (a2t hq)
 have z1 : ¬ w1.heap.size = p.B := by omega
 have z2 : ¬ w1.heap.size = p.F := by omega
 have z3 : ¬ w1.heap.size = q.g := by omega
 have z4 : W.heap.size + 1 < w1.heap.size := a0n hA.o
 have z5 : ¬ w1.heap.size = W.heap.size + 1 := by omega
 obtain rfl : k = 39 := by omega
 clear hlen hk hrn e ho hrb hv hrg t0 t1 t2 t4 h40
 go_enter Tryz.func58, Tryz.ntmps58
 go_wp2
 go_region
 clear z1 z2 z3 z4 z5 b1 b2 b3 v0 v1 v2
 obtain ⟨w2, hw2⟩ := exq ((w1.alloc (bx v)).drew)
 have E2 : Below w1.heap.size w1 w2 := by rw [← hw2]; exact a0i (a0c (Below.refl _ _) _)
 have g2 : w2.heap[w1.heap.size]? = some (bx v) := by rw [← hw2]; exact a0h _ _
 have h2 := h1.on E2
 rw [hw2]
 clear hw2
 obtain ⟨v0, v1, v2, _, _, _⟩ := in3 g2
 obtain ⟨m0, _⟩ := h2.cells
 have c2 := a0l E2 c0
 clear m0 c0
 go_wp2
 go_ret2
 exact ⟨rfl, a0b hA.b E2⟩
end
theorem d4z (b off j : Nat) : (⟨b, off, none⟩ : Addr).add j = ⟨b, off + j, none⟩ := by
 simp only [Addr.add]
 split
 ·rename_i h; subst h; rfl
 ·rfl
theorem b6g {W : World} {b : Nat} : ∀ (rs : List Vl) (off : Nat), (∀ j x, rs[j]? = some x → a1m W b (off + j * 3) x) → ∀ j v, (flat rs)[j]? = some v → W.cell? ⟨b, off + j, none⟩ = some v
 | [], off, _, j, v, hv => by simp [flat] at hv
 | x :: xs, off, hc, j, v, hv => by
  have e : flat (x :: xs) = .int .i64 x.k :: .int .i64 x.n :: .string x.s :: flat xs := by simp [flat]
  rw [e] at hv
  obtain ⟨t0, t1, t2⟩ := hc 0 x rfl
  match j, hv with
  | 0, hv => cases hv; simpa using t0
  | 1, hv => cases hv; simpa using t1
  | 2, hv => cases hv; simpa using t2
  | j + 3, hv =>
   have := b6g xs (off + 3) (fun i y hy => by rw [show off + 3 + i * 3 = off + (i + 1) * 3 by omega]; exact hc (i + 1) y (by simpa using hy)) j v (by simpa using hv)
   rw [show off + (j + 3) = off + 3 + j by omega]
   exact this
theorem c6j {rs : List Vl} : ∀ x ∈ flat rs, x.oneCell' = true := fun x hx => by
 simp only [flat, List.mem_flatMap] at hx
 obtain ⟨v, _, hx⟩ := hx
 simp at hx
 rcases hx with rfl | rfl | rfl <;> rfl
theorem c7j {n₀ : Nat} {W : World} {b : Nat} : ∀ (xs : List Tb) (off : Nat), (∀ j x, xs[j]? = some x → TbAt n₀ W b (off + j * 2) x) → ∃ tw : List Tw, tw.map Tw.t = xs ∧ (∀ j v, (a0m tw)[j]? = some v → W.cell? ⟨b, off + j, none⟩ = some v) ∧ ∀ q ∈ tw, Row n₀ W q.a q.t.ks ∧ Row n₀ W q.b q.t.vs
 | [], off, _ => ⟨[], rfl, fun j v hv => by simp [a0m] at hv, fun q hq => by simp at hq⟩
 | x :: xs, off, hc => by
  obtain ⟨kv, vv, t0, t1, hr, hr'⟩ := hc 0 x rfl
  obtain ⟨tw, e1, e2, e3⟩ := c7j xs (off + 2) (fun i y hy => by rw [show off + 2 + i * 2 = off + (i + 1) * 2 by omega]; exact hc (i + 1) y (by simpa using hy))
  refine ⟨⟨x, kv, vv⟩ :: tw, by simp [e1], fun j v hv => ?_, fun q hq => ?_⟩
  ·have e : a0m (⟨x, kv, vv⟩ :: tw) = kv :: vv :: a0m tw := by simp [a0m]
   rw [e] at hv
   match j, hv with
   | 0, hv => cases hv; simpa using t0
   | 1, hv => cases hv; simpa using t1
   | j + 2, hv =>
    rw [show off + (j + 2) = off + 2 + j by omega]
    exact e2 j v (by simpa using hv)
  ·rcases List.mem_cons.1 hq with rfl | hq
   ·exact ⟨hr, hr'⟩
   ·exact e3 q hq
theorem d0o {b off : Nat} {ts : List ByteArray} (hc : ∀ j t, ts[j]? = some t → W.cell? ⟨b, off + j, none⟩ = some (.string t)) : ∀ j v, (ts.map Value.string)[j]? = some v → W.cell? ⟨b, off + j, none⟩ = some v := fun j v hv => by
 rw [List.getElem?_map] at hv
 obtain ⟨t, h1, rfl⟩ := Option.map_eq_some_iff.1 hv
 exact hc j t h1
theorem a3q {P : Program} (w : World) {ops : Array Oper} {rest : List Oper} {o : Oper} {a : Act} {Q : Exit → Act → World → Prop} (hgd : o.guard = none) (s x : Operand) (t : TypeId) (ho : o.op = .call { callee := .builtin .append, args := #[s, x], argTypes := #[t, t] }) (e : TypeId) (i : TypeInfo) (z : Value) (size bytes : Nat) (ht : P.underlying t = some (.slice e)) (hi : P.info? e = some i) (hz : i.zero = some z) (hsize : i.size = size) (hby : i.bytes = bytes) (hzs : z.cells.size = size) (hsz : 0 < size) (E : Nat) (hE : w.heap[E]? = some (.cells #[] e)) (hs : a.eval s = .slice (some ⟨E, 0, none⟩) 0 0) (xa : Option Addr) (m c : Nat) (news : List Value) (hx : a.eval x = .slice xa m c) (hl : news.length = m * size) (hnews : news ≠ [] → ∃ b off, xa = some ⟨b, off, none⟩ ∧ ∀ j u, news[j]? = some u → w.cell? ⟨b, off + j, none⟩ = some u) (h1 : ∀ u ∈ news, u.oneCell' = true) (h63 : m ≤ maxLen) (hbytes : m * bytes ≤ 140737488355328) (h : ∀ g cap w', OwnR w' g e size m cap news → w.grownBy w' (some E) → (E = g ∨ g = w.heap.size) → wpList P ops Q rest (a.put o.dst (.slice (some ⟨g, 0, none⟩) m cap)) w') : wpList P ops Q (o :: rest) a w := by
 have hlt : E < w.heap.size := (Array.getElem?_eq_some_iff.1 hE).1
 have hown : w.ownsRow E e size (.slice (some ⟨E, 0, none⟩) 0 0) 0 [] := a6j hE (Nat.le_refl _)
 rcases Nat.eq_zero_or_pos m with rfl | hm
 ·obtain rfl : news = [] := by simpa using hl
  refine wpList_plain hgd fun K hK => ?_
  have key := hK _ _ (h E 0 w (OwnR.of hown).1 (World.grownBy.refl _ _) (.inl rfl))
  have hrun : (Builtin.append_ #[t, t] o.type #[.slice (some ⟨E, 0, none⟩) 0 0, .slice xa 0 c]).run P w = .ok (.slice (some ⟨E, 0, none⟩) 0 0) w := by
   cases xa <;> simp [Builtin.append_, run_underlying ht, sizeOf, typeInfo, hi, Builtin.lenOf, Builtin.firstCells, storeCells, loadCells, loadCellsFrom]
  unfold Oper.wp
  simp [execOp, ho, resolve, invoke, builtin, hs, hx, hrun, Result.andThen]
  exact key
 ·have hne : news ≠ [] := fun e => by rw [e] at hl; have := Nat.mul_pos hm hsz; simp at hl; omega
  obtain ⟨b, off, rfl, hc⟩ := hnews hne
  exact wpList_append_lies w hgd s x t ho E e i z size bytes ht hi hz hsize hby hzs hsz _ 0 [] hs hown ⟨b, off, none⟩ m c news hx hl (fun j u hu => by rw [d4z]; exact hc j u hu) h1 hm (by omega) (by rw [Nat.zero_add]; exact hbytes) (by omega) _ rfl fun g cap w' a1 a2 a3 a4 => by
   rw [Nat.zero_add] at a1 ⊢
   rw [List.nil_append] at a1
   exact h g cap w' (OwnR.of a1).1 a2 (by rcases a3 with e | e; exact .inl (Option.some.inj e); exact .inr e)
structure CpI (w3 : World) (Bt : Nat) (tv ov : Value) (s : St) (m : Nat) (fw : List Fw) (fv : Value) (wr : World) : Prop where
 t : wr.heap[Bt]? = some (stb fv tv ov s)
 o : wr.ownsRow w3.heap.size 50 4 fv m (a0p fw)
 x : fw.map Fw.x = s.fr.take m
 rg : ∀ q ∈ fw, OwnR wr q.g 30 3 q.x.rs.length q.c (flat q.x.rs)
 l : ∀ q ∈ fw, w3.heap.size ≤ q.g ∧ some q.g ≠ fv.ownBlock
 nd : (fw.map Fw.g).Nodup
 b : a1n (fun k => k = Bt) w3 wr
theorem a6f (h : W.ownsRow base e sz v n xs) {g : Nat} (hg : v.ownBlock = some g) : base ≤ g ∧ g < W.heap.size := by
 obtain ⟨_, ⟨rfl, _⟩ | ⟨g', cap, cur, rfl, hb, hc, _⟩⟩ := h
 ·cases hg
 ·cases hg; exact ⟨hb, (Array.getElem?_eq_some_iff.1 hc).1⟩
theorem b0e {W' : World} (h : W.ownsRow base e sz v n xs) (hs : ∀ g, v.ownBlock = some g → W'.heap[g]? = W.heap[g]?) : W'.ownsRow base e sz v n xs := by
 obtain ⟨h1, ⟨rfl, h2⟩ | ⟨g', cap, cur, rfl, hb, hc, hr⟩⟩ := h
 ·exact ⟨h1, .inl ⟨rfl, h2⟩⟩
 ·exact ⟨h1, .inr ⟨g', cap, cur, rfl, hb, (hs g' rfl).trans hc, hr⟩⟩
theorem CpI.snoc {w3 wr w6 w9 : World} {Bt D E g1 c1 g3 c3 m : Nat} {tv ov fv : Value} {s : St} {fw : List Fw} {x : Frm} {w4 w5 w7 w8 : World} (h : CpI w3 Bt tv ov s m fw fv wr) (hBt : Bt < w3.heap.size) (hx : s.fr[m]? = some x) (h4 : Below wr.heap.size wr w4) (hD : D = wr.heap.size) (hDl : D < w4.heap.size) (h5 : Below w4.heap.size w4 w5) (hE : E = w4.heap.size) (hEl : E < w5.heap.size) (h6 : w5.grownBy w6 (some E)) (hg1 : OwnR w6 g1 30 3 x.rs.length c1 (flat x.rs)) (hat1 : E = g1 ∨ g1 = w5.heap.size) (h7 : w6.setCell ⟨D, 3, none⟩ (.slice (some ⟨g1, 0, none⟩) x.rs.length c1) = w7) (h8 : Below w7.heap.size w7 w8) (h9 : w8.grownBy w9 fv.ownBlock) (hg3 : w9.ownsRow w3.heap.size 50 4 (.slice (some ⟨g3, 0, none⟩) (m + 1) c3) (m + 1) (a0p fw ++ [Value.int .i64 x.f, Value.int .i64 x.pc, Value.int .i64 x.d, Value.slice (some ⟨g1, 0, none⟩) x.rs.length c1])) (hat3 : fv.ownBlock = some g3 ∨ g3 = w8.heap.size) :
  CpI w3 Bt tv ov s (m + 1) (fw ++ [⟨x, g1, c1⟩]) (.slice (some ⟨g3, 0, none⟩) (m + 1) c3) (w9.setCell ⟨Bt, 0, none⟩ (.slice (some ⟨g3, 0, none⟩) (m + 1) c3)) := by
 have z0 := h.b.size
 have z4 := h4.size
 have z5 := h5.size
 have z6 := h6.size
 have z7 : w7.heap.size = w6.heap.size := by rw [← h7]; simp
 have z8 := h8.size
 have z9 := h9.size
 have hg1l := hg1.lt
 have hown := fun g (e : fv.ownBlock = some g) => a6f h.o e
 -- what lay there
 have key : ∀ c, c < wr.heap.size → c ≠ Bt → some c ≠ fv.ownBlock → (w9.setCell ⟨Bt, 0, none⟩ (.slice (some ⟨g3, 0, none⟩) (m + 1) c3)).heap[c]? = wr.heap[c]? := fun c hc h1 h2 => by
  refine (a0f _ _ h1).trans ((h9.block c (by omega) h2).trans ((h8.block c (by omega)).trans ?_))
  rw [← h7]
  exact (a0f _ _ (by omega)).trans ((h6.block c (by omega) (fun e => by have := Option.some.inj e; omega)).trans ((h5.block c (by omega)).trans (h4.block c hc)))
 have key1 : (w9.setCell ⟨Bt, 0, none⟩ (.slice (some ⟨g3, 0, none⟩) (m + 1) c3)).heap[g1]? = w6.heap[g1]? := by
  have hne : some g1 ≠ fv.ownBlock := fun e => by have := hown g1 e.symm; omega
  refine (a0f _ _ (by omega)).trans ((h9.block g1 (by omega) hne).trans ((h8.block g1 (by omega)).trans ?_))
  rw [← h7]
  exact a0f _ _ (by omega)
 have hB9 : w9.heap[Bt]? = wr.heap[Bt]? := by
  have hne : some Bt ≠ fv.ownBlock := fun e => by have := hown Bt e.symm; omega
  refine (h9.block Bt (by omega) hne).trans ((h8.block Bt (by omega)).trans ?_)
  rw [← h7]
  exact (a0f _ _ (by omega)).trans ((h6.block Bt (by omega) (fun e => by have := Option.some.inj e; omega)).trans ((h5.block Bt (by omega)).trans (h4.block Bt (by omega))))
 have hg3l : w3.heap.size ≤ g3 := (a6f hg3 rfl).1
 have hg3n : g3 ≠ Bt := by omega
 refine ⟨?_, ?_, ?_, fun q hq => ?_, fun q hq => ?_, ?_, ?_⟩
 ·have := a0k (i := 0) (.slice (some ⟨g3, 0, none⟩) (m + 1) c3) (hB9.trans h.t)
  refine this.trans ?_
  simp [stb]
 ·rw [a0u]
  have e : a0p [(⟨x, g1, c1⟩ : Fw)] = [Value.int .i64 x.f, Value.int .i64 x.pc, Value.int .i64 x.d, Value.slice (some ⟨g1, 0, none⟩) x.rs.length c1] := by simp [a0p]
  rw [e]
  exact b0e hg3 (fun g e => by cases e; exact a0f _ _ hg3n)
 ·rw [a3t hx, List.map_append, h.x]; rfl
 ·rcases List.mem_append.1 hq with hq | hq
  ·obtain ⟨l1, l2⟩ := h.l q hq
   exact (h.rg q hq).same (key _ (h.rg q hq).lt (by omega) l2)
  ·simp only [List.mem_singleton] at hq
   subst hq
   exact hg1.same key1
 ·rcases List.mem_append.1 hq with hq | hq
  ·obtain ⟨l1, l2⟩ := h.l q hq
   refine ⟨l1, fun e => ?_⟩
   have e' : q.g = g3 := Option.some.inj e
   have := (h.rg q hq).lt
   rcases hat3 with e2 | e2
   ·exact l2 (by rw [e', e2])
   ·omega
  ·simp only [List.mem_singleton] at hq
   subst hq
   refine ⟨by show _ ≤ g1; omega, fun e => ?_⟩
   have e' : g1 = g3 := Option.some.inj e
   rcases hat3 with e2 | e2
   ·have := hown g3 e2; omega
   ·omega
 ·rw [List.map_append, List.nodup_append]
  refine ⟨h.nd, by simp, fun a ha b hb' => ?_⟩
  obtain ⟨z, hz, rfl⟩ := List.mem_map.1 ha
  simp at hb'
  subst hb'
  have := (h.rg z hz).lt
  omega
 ·refine ⟨h9.os.trans (h8.os.trans ?_), h9.tape.trans (h8.tape.trans ?_), h9.output.trans (h8.output.trans ?_), by simp; omega, fun k hk hn => ?_⟩
  ·rw [← h7]; exact h6.os.trans (h5.os.trans (h4.os.trans h.b.os))
  ·rw [← h7]; exact h6.tape.trans (h5.tape.trans (h4.tape.trans h.b.tape))
  ·rw [← h7]; exact h6.output.trans (h5.output.trans (h4.output.trans h.b.output))
  ·exact (key k (by omega) hn (fun e => by have := (hown k e.symm).1; omega)).trans (h.b.block k hk hn)
structure FD (n0 l0 : Nat) (W : World) (F fc T tc U uc : Nat) (fw : List Fw) (tw : List Tw) (s : St) : Prop where
 fo : OwnR W F 50 4 s.fr.length fc (a0p fw)
 to : OwnR W T 57 2 s.tb.length tc (a0m tw)
 uo : OwnR W U 9 1 s.out.length uc (s.out.map Value.string)
 hf : fw.map Fw.x = s.fr
 ht : tw.map Tw.t = s.tb
 rg : ∀ q ∈ fw, OwnR W q.g 30 3 q.x.rs.length q.c (flat q.x.rs)
 nd : (F :: T :: U :: fw.map Fw.g).Nodup
 lo : ∀ k ∈ F :: T :: U :: fw.map Fw.g, l0 ≤ k
 tr : ∀ q ∈ tw, Rw W (F :: T :: U :: fw.map Fw.g) q.a q.t.ks ∧ Rw W (F :: T :: U :: fw.map Fw.g) q.b q.t.vs
 rw : ∀ q ∈ tw, Row n0 W q.a q.t.ks ∧ Row n0 W q.b q.t.vs
end
end Go.Proofs.YthpgbienakcbeaaGreatDoor
