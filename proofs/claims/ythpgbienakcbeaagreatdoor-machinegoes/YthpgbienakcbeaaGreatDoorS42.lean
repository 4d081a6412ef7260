/- An order is done: on elsewhere, a test, a call's end. -/
import Derived.Test.YthpgbienakcbeaaGreatDoorS40
import Derived.StillTailTactics
namespace Go.Proofs.YthpgbienakcbeaaGreatDoor
open Go.RowKit Go
set_option maxRecDepth 100000
set_option maxHeartbeats 8000000
set_option linter.all false
variable {l : List Fw} {q : Fw} {v : Vl}
section
variable [DecidableEq Vl]
def retS (s : St) (l : List Fw) (q : Fw) (v : Vl) : St := match (l.map Fw.x).getLast? with | none => { s with en := 1, la := v } | some y => { s with fr := (l.map Fw.x).dropLast ++ [putR y q.x.d v] }
section
variable {w0 : World} {p : Mp} {fv : Value} {mn : Int} {s : St} {W : World}
theorem Mc.setPC3 (h : Mc w0 p fv mn s W) (e : p.fw = l ++ [q]) (pc : Int) : ∃ p' : Mp, p'.B = p.B ∧ p'.ap = p.ap ∧ p'.F = p.F ∧ p'.fw = l ++ [{ q with x := { q.x with pc := pc } }] ∧ p'.own = p.own ∧ Mc w0 p' fv mn { s with fr := l.map Fw.x ++ [{ q.x with pc := pc }] } (W.setCell ⟨p.F, l.length * 4 + 1, none⟩ (.int .i64 pc)) :=
 ⟨{ p with fw := l ++ [{ q with x := { q.x with pc := pc } }] }, rfl, rfl, rfl, rfl, (h.setPC2 e pc).2, (h.setPC2 e pc).1⟩
structure DoAt (p : Mp) (o : Od) (k : Nat) (q : Fw) (W w1 : World) : Prop where
 b : Below W.heap.size W w1
 g : w1.heap[W.heap.size]? = some (.cells #[.int .i64 o.op, .int .i64 o.a, .int .i64 o.b, .int .i64 o.c] 82)
 c2 : w1.cell? ⟨p.B, 2, none⟩ = some (.slice (some ⟨p.F, 0, none⟩) (k + 1) p.fc)
 f1 : w1.cell? ⟨p.F, k * 4 + 1, none⟩ = some (.int .i64 q.x.pc)
 f3 : w1.cell? ⟨p.F, k * 4 + 3, none⟩ = some (.slice (some ⟨q.g, 0, none⟩) q.x.rs.length q.c)
 z1 : w1.frozen? ⟨p.F, k * 4 + 1, none⟩ = false
theorem doAt (h : Mc w0 p fv mn s W) (e : p.fw = l ++ [q]) (o : Od) : DoAt p o l.length q W (W.alloc (.cells #[.int .i64 o.op, .int .i64 o.a, .int .i64 o.b, .int .i64 o.c] 82)) := by
 have hb := a0c (Below.refl W.heap.size W) (.cells #[.int .i64 o.op, .int .i64 o.a, .int .i64 o.b, .int .i64 o.c] 82)
 have h1 := h.on hb
 have hlen : s.fr.length = l.length + 1 := by rw [← h.hf, e]; simp
 obtain ⟨_, x1, _, x3, xf⟩ := h1.topCells e
 have c2 := h1.cells.2.2.1
 rw [hlen] at c2
 exact ⟨hb, a0h _ _, c2, x1, x3, xf⟩
theorem d0c (h : Mc w0 p fv mn s W) (e : p.fw = l ++ [q]) (hl : l.length ≤ 1000) (o : Od) (ho : o.op = 8 ∨ o.op = 10) :
  Calls Tryz.prog 53 #[.pointer (some ⟨p.B, 0, none⟩), o.v] W fun E W' => E = .returned (.tuple #[]) ∧ ∃ V, Below W.heap.size W V ∧ W' = V.setCell ⟨p.F, l.length * 4 + 1, none⟩ (.int .i64 o.a) := by
 have hD := doAt h e o
 obtain ⟨op, oa, ob, oc, _, _, _, _⟩ := o
 simp only at ho hD ⊢
 obtain ⟨k, hk⟩ := exq (l.length)
 rw [hk] at hD hl ⊢
 obtain ⟨w1, hw1⟩ := exq (W.alloc (.cells #[.int .i64 op, .int .i64 oa, .int .i64 ob, .int .i64 oc] 82))
 rw [hw1] at hD
 obtain ⟨hb, hg, c2, f1, f3, z1⟩ := hD
 have o0 := a0a (i := 0) hg rfl
 have o1 := a0a (i := 1) hg rfl
 have ht := a3s p.B p.F p.fc k w1 c2 hl
 have h8 : (op == 8) = true ∨ ((op == 8) = false ∧ (op == 10) = true) := by
  rcases ho with rfl | rfl
  ·exact .inl rfl
  ·exact .inr ⟨rfl, rfl⟩
 clear ho h e hk
 rcases h8 with h8 | ⟨h8, h10⟩
 all_goals
  go_enter Tryz.func53, Tryz.ntmps53
  go_wp2_with (go_at_call 76; refine ht.mono ?_; rintro e w2 ⟨rfl, m, rfl⟩)
  go_end0
  exact ⟨rfl, w1.drewN m, a1q hb, rfl⟩
theorem d2p {fs : List Fd} (h : Mc w0 p fv mn s W) (hg : Good fs s) (e : p.fw = l ++ [q]) (hl : l.length ≤ 1000) (a : Nat) (ob oc : Int) (hv : q.x.rs[a]? = some v) :
  Calls Tryz.prog 53 #[.pointer (some ⟨p.B, 0, none⟩), .agg #[.int .i64 12, .int .i64 (a : Nat), .int .i64 ob, .int .i64 oc]] W fun E W' => E = .returned (.tuple #[]) ∧ ∃ p', p'.B = p.B ∧ p'.ap = p.ap ∧ Mc w0 p' fv mn (retS s l q v) W' ∧ MK p.own W p'.own W' := by
 have hlen : s.fr.length = l.length + 1 := by rw [← h.hf, e]; simp
 have hq : q ∈ p.fw := by rw [e]; simp
 have hla := (List.getElem?_eq_some_iff.1 hv).1
 have hb := a0c (Below.refl W.heap.size W) (.cells #[.int .i64 12, .int .i64 (a : Nat), .int .i64 ob, .int .i64 oc] 82)
 have hgb : (W.alloc (.cells #[.int .i64 12, .int .i64 (a : Nat), .int .i64 ob, .int .i64 oc] 82)).heap[W.heap.size]? = some (.cells #[.int .i64 12, .int .i64 (a : Nat), .int .i64 ob, .int .i64 oc] 82) := a0h _ _
 obtain ⟨w1, hw1⟩ := exq (W.alloc (.cells #[.int .i64 12, .int .i64 (a : Nat), .int .i64 ob, .int .i64 oc] 82))
 rw [hw1] at hb hgb
 have h1 := h.on hb
 obtain ⟨_, x1, _, x3, xf⟩ := h1.topCells e
 have c2 := h1.cells.2.2.1
 rw [hlen] at c2
 obtain ⟨⟨r0, r1, r2⟩, _, _, _⟩ := h1.reg hq hv
 have o0 := a0a (i := 0) hgb rfl
 have o1 := a0a (i := 1) hgb rfl
 have hback : ∀ w2, Below W.heap.size W w2 → Calls Tryz.prog 79 #[.pointer (some ⟨p.B, 0, none⟩), v.v] w2 fun E W' => E = .returned (.tuple #[]) ∧ ∃ p', p'.B = p.B ∧ p'.ap = p.ap ∧ Mc w0 p' fv mn (retS s l q v) W' ∧ MK p.own w2 p'.own W' := fun w2 hb => c1e (h.on hb) hg e v
 obtain ⟨k, hk⟩ := exq (l.length)
 obtain ⟨n, hn⟩ := exq (q.x.rs.length)
 rw [hk] at hl c2 x3 x1 xf
 rw [hn] at hla x3
 have ht := a3s p.B p.F p.fc k w1 c2 hl
 replace hback : Hid _ := hback
 clear hv hk hn hlen
 go_enter Tryz.func53, Tryz.ntmps53
 go_wp2_with (go_at_call 76; refine ht.mono ?_; rintro e w2 ⟨rfl, m, rfl⟩)
 have hbD : Below W.heap.size W (w1.drewN m).drew := a0i (a1q hb)
 refine wp_region_still_tail 9 (by kernel_rfl) (by kernel_rfl) ?_
 change wpStill _ _ (w1.drewN m).drew _ _ _
 simp only [List.take_succ_cons, List.take_zero, List.drop_succ_cons, List.drop_zero]
 repeat still_step
 refine wpStill_nil ?_
 go_wp2_with (go_at_call 79; refine (hback.out _ hbD).mono ?_; rintro E w3 ⟨rfl, p', y1, y2, y3, y4⟩)
 go_end0
 exact ⟨rfl, p', y1, y2, y3, (MK.below hbD).trans y4⟩
theorem d0d (h : Mc w0 p fv mn s W) (e : p.fw = l ++ [q]) (hl : l.length ≤ 1000) (a : Nat) (ob oc : Int) (hv : q.x.rs[a]? = some v) (pc : Int) (hpc : q.x.pc = pc) (hp1 : 0 ≤ pc) (hp2 : pc ≤ 1000000) :
  Calls Tryz.prog 53 #[.pointer (some ⟨p.B, 0, none⟩), .agg #[.int .i64 9, .int .i64 (a : Nat), .int .i64 ob, .int .i64 oc]] W fun E W' => E = .returned (.tuple #[]) ∧ ∃ p', p'.B = p.B ∧ p'.ap = p.ap ∧ Mc w0 p' fv mn { s with fr := l.map Fw.x ++ [{ q.x with pc := if truthB v.k v.n v.s = true then pc + 1 else ob }] } W' ∧ MK p.own W p'.own W' := by
 have hlen : s.fr.length = l.length + 1 := by rw [← h.hf, e]; simp
 have hq : q ∈ p.fw := by rw [e]; simp
 have hla := (List.getElem?_eq_some_iff.1 hv).1
 have hb := a0c (Below.refl W.heap.size W) (.cells #[.int .i64 9, .int .i64 (a : Nat), .int .i64 ob, .int .i64 oc] 82)
 have hgb : (W.alloc (.cells #[.int .i64 9, .int .i64 (a : Nat), .int .i64 ob, .int .i64 oc] 82)).heap[W.heap.size]? = some (.cells #[.int .i64 9, .int .i64 (a : Nat), .int .i64 ob, .int .i64 oc] 82) := a0h _ _
 obtain ⟨w1, hw1⟩ := exq (W.alloc (.cells #[.int .i64 9, .int .i64 (a : Nat), .int .i64 ob, .int .i64 oc] 82))
 rw [hw1] at hb hgb
 have h1 := h.on hb
 obtain ⟨_, x1, _, x3, xf⟩ := h1.topCells e
 have c2 := h1.cells.2.2.1
 rw [hlen] at c2
 have o0 := a0a (i := 0) hgb rfl
 have hFl := h.lt _ a2f
 obtain ⟨k, hk⟩ := exq (l.length)
 obtain ⟨n, hn⟩ := exq (q.x.rs.length)
 rw [hk] at hl c2 x3 x1 xf
 rw [hn] at hla
 rw [hpc] at x1
 have ht := a3s p.B p.F p.fc k w1 c2 hl
 -- the frame goes on first
 have key : ∀ m, ∃ p1 : Mp, p1.B = p.B ∧ p1.ap = p.ap ∧ p1.F = p.F ∧ p1.fw = l ++ [{ q with x := { q.x with pc := pc + 1 } }] ∧ p1.own = p.own ∧ Mc w0 p1 fv mn { s with fr := l.map Fw.x ++ [{ q.x with pc := pc + 1 }] } ((w1.drewN m).setCell ⟨p.F, k * 4 + 1, none⟩ (.int .i64 (pc + 1))) := fun m => by
  have hP := (h1.on (a1q (n := m) (Below.refl _ _))).setPC3 e (pc + 1)
  rw [hk] at hP
  exact hP
 have htr := a9p v.k v.n v.s
 obtain ⟨tb, htb⟩ := exq (truthB v.k v.n v.s)
 rw [htb] at htr ⊢
 replace key : Hid _ := key
 have hoB : w1.heap[W.heap.size]? = _ := hgb
 clear htb hlen
 go_enter Tryz.func53, Tryz.ntmps53
 go_wp2_with (go_at_call 76; refine ht.mono ?_; rintro e w2 ⟨rfl, m, rfl⟩)
 obtain ⟨p1, e1, e2, e3, e4, e5, hM⟩ := key.out m
 have hK0 : MK p.own W p1.own ((w1.drewN m).setCell ⟨p.F, k * 4 + 1, none⟩ (.int .i64 (pc + 1))) := by rw [e5]; exact (MK.below (a1q (n := m) hb)).trans (MK.set a2f)
 have hgX : ((w1.drewN m).setCell ⟨p.F, k * 4 + 1, none⟩ (.int .i64 (pc + 1))).heap[W.heap.size]? = some (.cells #[.int .i64 9, .int .i64 (a : Nat), .int .i64 ob, .int .i64 oc] 82) := (a0f _ _ (by omega)).trans hgb
 obtain ⟨X, hX⟩ := exq ((w1.drewN m).setCell ⟨p.F, k * 4 + 1, none⟩ (.int .i64 (pc + 1)))
 rw [hX] at hM hK0 hgX
 have hq1 : ({ q with x := { q.x with pc := pc + 1 } } : Fw) ∈ p1.fw := by rw [e4]; simp
 obtain ⟨⟨r0, r1, r2⟩, _, _, _⟩ := hM.reg hq1 (i := a) (v := v) hv
 obtain ⟨_, y1, _, y3, yf⟩ := hM.topCells e4
 rw [hk, e3] at y1 y3 yf
 have o1 := a0a (i := 1) hgX rfl
 have o2 := a0a (i := 2) hgX rfl
 have y3' : X.cell? ⟨p.F, k * 4 + 3, none⟩ = some (.slice (some ⟨q.g, 0, none⟩) n q.c) := by rw [← hn]; exact y3
 rw [hX]
 have hkk := hk
 clear hX x1 xf x3 hv y3 hn hk hpc o0
 replace hkk : Hid _ := hkk
 go_wp2
 refine wp_region_still_tail 8 (by kernel_rfl) (by kernel_rfl) ?_
 change wpStill _ _ X.drew _ _ _
 simp only [List.take_succ_cons, List.take_zero, List.drop_succ_cons, List.drop_zero]
 repeat still_step
 refine wpStill_nil ?_
 have hXw : X.heap.size ≤ X.heap.size := Nat.le_refl _
 have hFX : p.F < X.heap.size := by rw [← e3]; exact hM.lt _ a2f
 cases tb with
 | true =>
  go_wp2_with (go_at_call 77; refine (htr _).mono ?_; rintro E w3 ⟨rfl, hb3⟩)
  have hb4 : Below X.heap.size X w3 := a0b (a0i (Below.refl _ _)) hb3
  have hM4 := hM.on hb4
  go_end0
  exact ⟨rfl, p1, e1, e2, by simpa using hM4, hK0.trans (MK.below hb4)⟩
 | false =>
  go_wp2_with (go_at_call 77; refine (htr _).mono ?_; rintro E w3 ⟨rfl, hb3⟩; have o2 := a0l (a0b (a0i (Below.refl _ _)) hb3) o2; have y1 := a0l (a0b (a0i (Below.refl _ _)) hb3) y1; have yf := ((a0b (a0i (Below.refl X.heap.size X)) hb3).frozen (p := ⟨p.F, k * 4 + 1, none⟩) hFX).trans yf)
  have hb4 : Below X.heap.size X w3 := a0b (a0i (Below.refl _ _)) hb3
  obtain ⟨p2, g1, g2, _, _, hown, hP⟩ := (hM.on hb4).setPC3 e4 ob
  rw [hkk.out, e3] at hP
  have hmk : MK p1.own w3 p1.own (w3.setCell ⟨p.F, k * 4 + 1, none⟩ (.int .i64 ob)) := by rw [← e3]; exact MK.set a2f
  go_end0
  refine ⟨rfl, p2, g1.trans e1, g2.trans e2, ?_, hK0.trans ((MK.below hb4).trans (by rw [hown]; exact hmk))⟩
  simpa using hP
end
end
end Go.Proofs.YthpgbienakcbeaaGreatDoor
