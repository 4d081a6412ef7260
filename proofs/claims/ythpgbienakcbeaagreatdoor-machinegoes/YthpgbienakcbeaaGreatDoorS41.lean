/- A call is begun. -/
import Derived.Test.YthpgbienakcbeaaGreatDoorS40
import Derived.Laws.CopyOwn
namespace Go.Proofs.YthpgbienakcbeaaGreatDoor
open Go.RowKit Go
set_option maxRecDepth 100000
set_option maxHeartbeats 8000000
set_option linter.all false
variable {l : List Fw} {q : Fw}
section
variable [DecidableEq Vl]
section
variable {w0 : World} {p : Mp} {fv : Value} {mn : Int} {s : St} {W : World}
theorem d0b (h : Mc w0 p fv mn s W) (e : p.fw = l ++ [q]) (k : Nat) (hk : l.length = k) (h40 : k + 1 < 40) (fb off cf nf : Nat) (hfv : fv = .slice (some ⟨fb, off, none⟩) nf cf) (b c cp n r pr : Nat) (d : Int) (pc : Int) (ag : List Vl) (hpc : q.x.pc = pc) (hpc1 : -1000000 ≤ pc) (hpc2 : pc ≤ 1000000) (v0 : W.cell? ⟨q.g, b * 3, none⟩ = some (.int .i64 5)) (v1 : W.cell? ⟨q.g, b * 3 + 1, none⟩ = some (.int .i64 (n : Nat))) (hn : n < nf) (r0 : W.cell? ⟨fb, off + n * 4, none⟩ = some (.int .i64 (pr : Nat))) (r1 : W.cell? ⟨fb, off + n * 4 + 1, none⟩ = some (.int .i64 (r : Nat))) (hpr : pr ≤ r) (hr : r ≤ 250) (hag : ag.length = c) (ha : ∀ j x, ag[j]? = some x → a1m W q.g (b * 3 + 3 + j * 3) x) (_hcp : c + 1 ≤ cp) (hcp1 : cp ≠ 1) (hc5 : c ≤ 5) :
  Calls Tryz.prog 78 #[.pointer (some ⟨p.B, 0, none⟩), .slice (some ⟨q.g, b * 3, none⟩) (c + 1) cp, .int .i64 d] W fun e W' => e = .returned (.tuple #[]) ∧ ∃ p', p'.B = p.B ∧ p'.ap = p.ap ∧ Mc w0 p' fv mn { s with fr := l.map Fw.x ++ [{ q.x with pc := pc + 1 }] ++ [⟨n, 0, d, a0x pr r ag⟩] } W' ∧ MK p.own W p'.own W' := by
 subst hfv
 have hlen : s.fr.length = k + 1 := by rw [← h.hf, e]; simp [hk]
 obtain ⟨c0, _, c2, _⟩ := h.cells
 rw [hlen] at c2
 obtain ⟨_, x1, _, _, xf⟩ := h.topCells e
 rw [hk, hpc] at x1
 rw [hk] at xf
 have hfr := a6v p.B fb off nf cf n r W c0 hn r1 hr
 have hB := h.lt _ a1d
 have hF := h.lt _ a2f
 have hg := World.block_lt_of_cell? _ _ v0
 have hfb := World.block_lt_of_cell? _ _ r0
 simp only at hg hfb
 go_enter Tryz.func78, Tryz.ntmps78
 go_wp2_with (go_at_call 97; refine (a4t 3 _).mono ?_; rintro e w' ⟨rfl, hw'⟩; rw [hw']; clear hw'; refine Hid.out ?_)
 refine Lib.hid ?_
 have h40' : ((k : Int) + 1 == 40) = false := by simp; omega
 go_wp2_with (go_at_call 97; refine (a4t 1 _).mono ?_; rintro e w' ⟨rfl, hw'⟩; rw [hw']; clear hw'; refine Hid.out ?_)
 refine Lib.hid ?_
 go_wp2_with (go_at_call 25; refine hfr.mono ?_; rintro e w1 ⟨gN, rfl, hO, hgN, hb1⟩; refine Hid.out ?_)
 refine Lib.hid ?_
 go_wp2
 obtain ⟨w2, hw2⟩ := exq (w1.alloc (.cells #[.int .i64 (n : Nat), .int .i64 0, .int .i64 d, .slice (some ⟨gN, 0, none⟩) r r] 50))
 have hb2 : Below W.heap.size W w2 := by rw [← hw2]; exact a0c hb1 _
 have hT6 : w2.heap[w1.heap.size]? = some (.cells #[.int .i64 (n : Nat), .int .i64 0, .int .i64 d, .slice (some ⟨gN, 0, none⟩) r r] 50) := by rw [← hw2]; exact a0h _ _
 have hO2 : OwnR w2 gN 30 3 r r (flat (List.replicate r nilV)) := hO.same (by rw [← hw2]; exact Below.heap_alloc _ _ _ hO.lt)
 rw [hw2]
 have hz1 := hb1.size
 have hgN2 : gN < w1.heap.size := hO.lt
 clear hw2
 have a0 := a0a (i := 0) hT6 rfl
 have a1 := a0a (i := 1) hT6 rfl
 have a2 := a0a (i := 2) hT6 rfl
 have a3 := a0a (i := 3) hT6 rfl
 have b0 := a0l hb2 c0
 have b2 := a0l hb2 c2
 have b3 := a0l hb2 r0
 have b4 := a0l hb2 x1
 have b5 := (hb2.frozen (p := ⟨p.F, k * 4 + 1, none⟩) hF).trans xf
 obtain ⟨hcl, cur, hcur, _, hcm, hcs, hct⟩ := hO2
 have hcur2 : cur.toList = flat (List.replicate r nilV) := by rw [← hct, List.take_of_length_le (by rw [Array.length_toList]; omega)]
 obtain ⟨m, hm⟩ : ∃ m, m = min ag.length pr := ⟨_, rfl⟩
 have hmin : Nat.min c pr = m := by rw [hm, hag]
 have hrun : ∀ ty, (Builtin.copy_ #[48, 48] ty #[.slice (some ⟨gN, 0, none⟩) pr r, .slice (some ⟨q.g, b * 3 + 3, none⟩) c (cp - 1)]).run Tryz.prog w2.drew = .ok (goInt m) (w2.drew.setRow gN (flat (a0x pr r ag)).toArray) := fun ty => by
  have := b3f (P := Tryz.prog) w2.drew 48 48 ty 30 gN 0 pr r ⟨q.g, b * 3 + 3, none⟩ c (cp - 1) m cur 30 (flat (ag.take m)) Tryz.underlying48 c7h hcur hmin (by rw [a1j, List.length_take]; congr 1; omega) (b3g (by omega) (fun j x hx => (ha j x hx).below (a0i hb2) hg)) (by rw [a1j, List.length_take, hcs]; omega) (fun v hv => by
   obtain ⟨z, _, hz⟩ := List.mem_flatMap.1 hv
   simp [trio] at hz
   rcases hz with rfl | rfl | rfl <;> rfl)
  rw [b0b hcur2 hm] at this
  exact this
 have hrs : (a0x pr r ag).length = r := by simp [a0x]; omega
 replace hrun : Hid _ := hrun
 have hle : (1 : Int) ≤ (c : Int) + 1 := by omega
 replace hrs : Hid _ := hrs
 replace hcur : Hid _ := hcur
 replace hcs : Hid _ := hcs
 replace ha : Hid _ := ha
 clear hm hmin hcur2 hct hcm hcl hag hO
 go_region_law (first | (refine step_copy_runI (by rfl) _ _ _ _ (by rfl) (.slice (some ⟨gN, 0, none⟩) pr r) (.slice (some ⟨q.g, b * 3 + 3, none⟩) c (cp - 1)) (by rfl) (by rfl) (hrun.out _) ?_))
 all_goals
  obtain ⟨w3, hw3⟩ := exq (w2.drew.setRow gN (flat (a0x pr r ag)).toArray)
  have hb3 : Below W.heap.size W w3 := by rw [← hw3]; exact below_setRow (a0i hb2) hgN _
  have hT3 : w3.heap[w1.heap.size]? = some (.cells #[.int .i64 (n : Nat), .int .i64 0, .int .i64 d, .slice (some ⟨gN, 0, none⟩) r r] 50) := by rw [← hw3]; exact (setRow_other _ _ _ _ (by omega)).trans hT6
  have hO3 : OwnR w3 gN 30 3 r r (flat (a0x pr r ag)) := by
   rw [← hw3]
   refine ⟨by rw [a1j, hrs.out], _, setRow_heap w2.drew gN cur _ 30 (0, 0) hcur.out, Nat.le_refl _, by unfold maxLen; omega, by simp [a1j, hrs.out], ?_⟩
   rw [List.take_of_length_le (by simp [a1j, hrs.out])]
  rw [hw3]
  clear hw3 a0 a1 a2 a3 b0 b2 b3 b4 b5
  have a0 := a0a (i := 0) hT3 rfl
  have a1 := a0a (i := 1) hT3 rfl
  have a2 := a0a (i := 2) hT3 rfl
  have a3 := a0a (i := 3) hT3 rfl
  have b2 := a0l hb3 c2
  have b4 := a0l hb3 x1
  have b5 := (hb3.frozen (p := ⟨p.F, k * 4 + 1, none⟩) hF).trans xf
  have hz3 := a0n hT3
  have htop := a3s p.B p.F p.fc k w3 b2 (by omega)
  go_wp2_with (go_at_call 76; refine htop.mono ?_; rintro e w4 ⟨rfl, m4, rfl⟩)
  obtain ⟨hP, hown1⟩ := (h.on (a1q (n := m4) hb3)).setPC2 e (pc + 1)
  obtain ⟨hP0, _⟩ := h.setPC2 e (pc + 1)
  rw [hk] at hP hP0
  have hmk : MK p.own (W.setCell ⟨p.F, k * 4 + 1, none⟩ (.int .i64 (pc + 1))) p.own ((w3.drewN m4).setCell ⟨p.F, k * 4 + 1, none⟩ (.int .i64 (pc + 1))) := MK.later (a1q (n := m4) hb3) a2f
  have hmk0 : MK p.own W p.own (W.setCell ⟨p.F, k * 4 + 1, none⟩ (.int .i64 (pc + 1))) := MK.set a2f
  obtain ⟨X4, hX4⟩ := exq ((w3.drewN m4).setCell ⟨p.F, k * 4 + 1, none⟩ (.int .i64 (pc + 1)))
  have hT4 : X4.heap[w1.heap.size]? = some (.cells #[.int .i64 (n : Nat), .int .i64 0, .int .i64 d, .slice (some ⟨gN, 0, none⟩) r r] 50) := by rw [← hX4]; exact (a0f _ _ (by omega)).trans hT3
  have hO4 : OwnR X4 gN 30 3 r r (flat (a0x pr r ag)) := hO3.same (by rw [← hX4]; exact a0f _ _ (by omega))
  rw [hX4] at hP hmk
  rw [hX4]
  clear hX4 a0 a1 a2 a3 b2 b4 b5
  obtain ⟨p1, hp1⟩ : ∃ p1 : Mp, { p with fw := l ++ [{ q with x := { q.x with pc := pc + 1 } }] } = p1 := ⟨_, rfl⟩
  rw [hp1] at hP hP0 hown1
  have eB : p1.B = p.B := by rw [← hp1]
  have eF : p1.F = p.F := by rw [← hp1]
  have efc : p1.fc = p.fc := by rw [← hp1]
  have eap : p1.ap = p.ap := by rw [← hp1]
  clear hp1
  have a0 := a0a (i := 0) hT4 rfl
  have a1 := a0a (i := 1) hT4 rfl
  have a2 := a0a (i := 2) hT4 rfl
  have a3 := a0a (i := 3) hT4 rfl
  have hbU := a0c (a0i (Below.refl X4.heap.size X4)) (.cells #[.int .i64 (n : Nat), .int .i64 0, .int .i64 d, .slice (some ⟨gN, 0, none⟩) r r] 50)
  have hgU : (X4.drew.alloc (.cells #[.int .i64 (n : Nat), .int .i64 0, .int .i64 d, .slice (some ⟨gN, 0, none⟩) r r] 50)).heap[X4.heap.size]? = some (.cells #[.int .i64 (n : Nat), .int .i64 0, .int .i64 d, .slice (some ⟨gN, 0, none⟩) r r] 50) := a0h X4.drew _
  obtain ⟨U, hU⟩ := exq (X4.drew.alloc (.cells #[.int .i64 (n : Nat), .int .i64 0, .int .i64 d, .slice (some ⟨gN, 0, none⟩) r r] 50))
  rw [hU] at hbU hgU
  have hu := hP.on hbU
  have hlen1 : (l.map Fw.x ++ [{ q.x with pc := pc + 1 }]).length = k + 1 := by simp [hk]
  have d2 := hP.cells.2.2.1
  have d3 := hu.cells.2.2.1
  have hown := hu.fo.owns (base := w0.heap.size) (hu.lo _ a2f)
  simp only [hlen1] at d2 d3 hown
  rw [eB, eF, efc] at d2 d3
  rw [eF, efc] at hown
  obtain ⟨i0, hi0, hz0, hz1', hz2⟩ := a1h b0v
  have hnews : ∀ j x, [Value.int .i64 (n : Nat), Value.int .i64 0, Value.int .i64 d, Value.slice (some ⟨gN, 0, none⟩) r r][j]? = some x → U.cell? ((⟨X4.heap.size, 0, none⟩ : Addr).add j) = some x := fun j x hx => by
   match j, hx with
   | 0, hx => cases hx; exact a0a (i := 0) hgU rfl
   | 1, hx => cases hx; exact a0a (i := 1) hgU rfl
   | 2, hx => cases hx; exact a0a (i := 2) hgU rfl
   | 3, hx => cases hx; exact a0a (i := 3) hgU rfl
   | j + 4, hx => simp at hx
  have hone : ∀ x ∈ [Value.int .i64 (n : Nat), Value.int .i64 0, Value.int .i64 d, Value.slice (some ⟨gN, 0, none⟩) r r], x.oneCell' = true := fun x hx => by simp at hx; rcases hx with rfl | rfl | rfl | rfl <;> rfl
  have h63 : k + 1 + 1 ≤ maxLen := by unfold maxLen; omega
  have hby : (k + 1 + 1) * 48 ≤ 140737488355328 := by omega
  have hsz := hu.bl.size
  have apx := a1f h.nd
  have hneF : some p.B ≠ some p.F := fun e => apx.bf (Option.some.inj e)
  have hbx := hu.box
  rw [eB] at hbx
  have hltB := hu.lt _ a1d
  rw [eB] at hltB
  replace hlen1 : Hid _ := hlen1
  replace hu : Hid _ := hu
  replace hP0 : Hid _ := hP0
  clear hP hO3 hT3 hT6
  go_region_law (first | (refine step_append_lies _ (by rfl) _ _ _ (by rfl) w0.heap.size 50 i0 _ 4 48 Tryz.underlying25 hi0 hz0 hz1' hz2 rfl (by omega) (.slice (some ⟨p.F, 0, none⟩) (k + 1) p.fc) (k + 1) _ (by rfl) hown ⟨X4.heap.size, 0, none⟩ 1 1 [Value.int .i64 (n : Nat), Value.int .i64 0, Value.int .i64 d, Value.slice (some ⟨gN, 0, none⟩) r r] (by rfl) (by rfl) hnews hone (by omega) h63 hby hsz _ rfl ?_; intro g3 cap3 w5 hown3 hgrow hat hlt3; have p5 := (hgrow.block _ hltB hneF).trans hbx; have q5 := a0a (i := 2) p5 rfl; have f5 : w5.frozen? ⟨p.B, 2, none⟩ = false := a0e p5))
  all_goals
   have hown3' : w5.ownsRow w0.heap.size 50 4 (.slice (some ⟨g3, 0, none⟩) ((l.map Fw.x ++ [{ q.x with pc := pc + 1 }]).length + 1) cap3) ((l.map Fw.x ++ [{ q.x with pc := pc + 1 }]).length + 1) (a0p p1.fw ++ [Value.int .i64 (n : Nat), Value.int .i64 0, Value.int .i64 d, Value.slice (some ⟨gN, 0, none⟩) (a0x pr r ag).length r]) := by rw [hlen1.out, hrs.out]; exact hown3
   have hgr : U.grownBy w5 (some p1.F) := by rw [eF]; exact hgrow
   have hat' : p1.F = g3 ∨ g3 = U.heap.size := by
    rw [eF]
    rcases hat with e | e
    ·exact .inl (Option.some.inj e)
    ·exact .inr e
   have hO5 : OwnR U gN 30 3 (a0x pr r ag).length r (flat (a0x pr r ag)) := by rw [hrs.out]; exact hO4.same (hbU.block gN hO4.lt)
   have hmkU := hmk.trans (MK.below (O := p.own) hbU)
   rw [← hown1] at hmkU
   obtain ⟨p', z1, z2, hM, hK⟩ := hP0.out.push hmkU hu.out (q := ⟨⟨n, 0, d, a0x pr r ag⟩, gN, r⟩) (by show _ ≤ gN; simp; omega) hO5 hown3' hgr hat'
   rw [hown1] at hK
   have hlx := hlen1.out
   simp only [hlx, eB] at hM hK
   go_end0
   exact ⟨rfl, p', z1.trans eB, z2.trans eap, hM, hmk0.trans hK⟩
end
section
variable {w0 : World} {p : Mp} {fv : Value} {mn : Int} {s : St} {W : World}
theorem c5t (h : Mc w0 p fv mn s W) (e : p.fw = l ++ [q]) (k : Nat) (hk : l.length = k) (h40 : k + 1 < 40) (fb off cf nf : Nat) (hfv : fv = .slice (some ⟨fb, off, none⟩) nf cf) (b n r pr : Nat) (d : Int) (pc : Int) (ag : List Vl) (hpc : q.x.pc = pc) (hpc1 : -1000000 ≤ pc) (hpc2 : pc ≤ 1000000) (v0 : W.cell? ⟨q.g, b * 3, none⟩ = some (.int .i64 5)) (v1 : W.cell? ⟨q.g, b * 3 + 1, none⟩ = some (.int .i64 (n : Nat))) (hn : n < nf) (r0 : W.cell? ⟨fb, off + n * 4, none⟩ = some (.int .i64 (pr : Nat))) (r1 : W.cell? ⟨fb, off + n * 4 + 1, none⟩ = some (.int .i64 (r : Nat))) (hpr : pr ≤ r) (hr : r ≤ 250) (hag : ag.length = 0) :
  Calls Tryz.prog 78 #[.pointer (some ⟨p.B, 0, none⟩), .slice (some ⟨q.g, b * 3, none⟩) 1 1, .int .i64 d] W fun e W' => e = .returned (.tuple #[]) ∧ ∃ p', p'.B = p.B ∧ p'.ap = p.ap ∧ Mc w0 p' fv mn { s with fr := l.map Fw.x ++ [{ q.x with pc := pc + 1 }] ++ [⟨n, 0, d, a0x pr r ag⟩] } W' ∧ MK p.own W p'.own W' := by
 subst hfv
 have hlen : s.fr.length = k + 1 := by rw [← h.hf, e]; simp [hk]
 obtain ⟨c0, _, c2, _⟩ := h.cells
 rw [hlen] at c2
 obtain ⟨_, x1, _, _, xf⟩ := h.topCells e
 rw [hk, hpc] at x1
 rw [hk] at xf
 have hfr := a6v p.B fb off nf cf n r W c0 hn r1 hr
 have hB := h.lt _ a1d
 have hF := h.lt _ a2f
 have hg := World.block_lt_of_cell? _ _ v0
 have hfb := World.block_lt_of_cell? _ _ r0
 simp only at hg hfb
 go_enter Tryz.func78, Tryz.ntmps78
 go_wp2_with (go_at_call 97; refine (a4t 3 _).mono ?_; rintro e w' ⟨rfl, hw'⟩; rw [hw']; clear hw'; refine Hid.out ?_)
 refine Lib.hid ?_
 have h40' : ((k : Int) + 1 == 40) = false := by simp; omega
 go_wp2_with (go_at_call 97; refine (a4t 1 _).mono ?_; rintro e w' ⟨rfl, hw'⟩; rw [hw']; clear hw'; refine Hid.out ?_)
 refine Lib.hid ?_
 go_wp2_with (go_at_call 25; refine hfr.mono ?_; rintro e w1 ⟨gN, rfl, hO, hgN, hb1⟩; refine Hid.out ?_)
 refine Lib.hid ?_
 go_wp2
 obtain ⟨w2, hw2⟩ := exq (w1.alloc (.cells #[.int .i64 (n : Nat), .int .i64 0, .int .i64 d, .slice (some ⟨gN, 0, none⟩) r r] 50))
 have hb2 : Below W.heap.size W w2 := by rw [← hw2]; exact a0c hb1 _
 have hT6 : w2.heap[w1.heap.size]? = some (.cells #[.int .i64 (n : Nat), .int .i64 0, .int .i64 d, .slice (some ⟨gN, 0, none⟩) r r] 50) := by rw [← hw2]; exact a0h _ _
 have hO2 : OwnR w2 gN 30 3 r r (flat (List.replicate r nilV)) := hO.same (by rw [← hw2]; exact Below.heap_alloc _ _ _ hO.lt)
 rw [hw2]
 have hz1 := hb1.size
 have hgN2 : gN < w1.heap.size := hO.lt
 clear hw2
 have a0 := a0a (i := 0) hT6 rfl
 have a1 := a0a (i := 1) hT6 rfl
 have a2 := a0a (i := 2) hT6 rfl
 have a3 := a0a (i := 3) hT6 rfl
 have b0 := a0l hb2 c0
 have b2 := a0l hb2 c2
 have b3 := a0l hb2 r0
 have b4 := a0l hb2 x1
 have b5 := (hb2.frozen (p := ⟨p.F, k * 4 + 1, none⟩) hF).trans xf
 obtain ⟨hcl, cur, hcur, _, hcm, hcs, hct⟩ := hO2
 have hcur2 : cur.toList = flat (List.replicate r nilV) := by rw [← hct, List.take_of_length_le (by rw [Array.length_toList]; omega)]
 obtain ⟨m, hm⟩ : ∃ m, m = min ag.length pr := ⟨_, rfl⟩
 have hmin : Nat.min 0 pr = m := by rw [hm, hag]
 have hrun : ∀ ty, (Builtin.copy_ #[48, 48] ty #[.slice (some ⟨gN, 0, none⟩) pr r, .slice (some ⟨q.g, b * 3, none⟩) 0 0]).run Tryz.prog w2.drew = .ok (goInt m) (w2.drew.setRow gN (flat (a0x pr r ag)).toArray) := fun ty => by
  have := b3f (P := Tryz.prog) w2.drew 48 48 ty 30 gN 0 pr r ⟨q.g, b * 3, none⟩ 0 0 m cur 30 (flat (ag.take m)) Tryz.underlying48 c7h hcur hmin (by rw [a1j, List.length_take]; congr 1; omega) (b3g (by omega) (fun j x hx => by rw [List.length_eq_zero_iff.1 hag] at hx; simp at hx)) (by rw [a1j, List.length_take, hcs]; omega) (fun v hv => by
   obtain ⟨z, _, hz⟩ := List.mem_flatMap.1 hv
   simp [trio] at hz
   rcases hz with rfl | rfl | rfl <;> rfl)
  rw [b0b hcur2 hm] at this
  exact this
 have hrs : (a0x pr r ag).length = r := by simp [a0x]; omega
 replace hrun : Hid _ := hrun
 replace hrs : Hid _ := hrs
 replace hcur : Hid _ := hcur
 replace hcs : Hid _ := hcs
 clear hm hmin hcur2 hct hcm hcl hag hO
 go_region_law (first | (refine step_copy_runI (by rfl) _ _ _ _ (by rfl) (.slice (some ⟨gN, 0, none⟩) pr r) (.slice (some ⟨q.g, b * 3, none⟩) 0 0) (by rfl) (by rfl) (hrun.out _) ?_))
 all_goals
  obtain ⟨w3, hw3⟩ := exq (w2.drew.setRow gN (flat (a0x pr r ag)).toArray)
  have hb3 : Below W.heap.size W w3 := by rw [← hw3]; exact below_setRow (a0i hb2) hgN _
  have hT3 : w3.heap[w1.heap.size]? = some (.cells #[.int .i64 (n : Nat), .int .i64 0, .int .i64 d, .slice (some ⟨gN, 0, none⟩) r r] 50) := by rw [← hw3]; exact (setRow_other _ _ _ _ (by omega)).trans hT6
  have hO3 : OwnR w3 gN 30 3 r r (flat (a0x pr r ag)) := by
   rw [← hw3]
   refine ⟨by rw [a1j, hrs.out], _, setRow_heap w2.drew gN cur _ 30 (0, 0) hcur.out, Nat.le_refl _, by unfold maxLen; omega, by simp [a1j, hrs.out], ?_⟩
   rw [List.take_of_length_le (by simp [a1j, hrs.out])]
  rw [hw3]
  clear hw3 a0 a1 a2 a3 b0 b2 b3 b4 b5
  have a0 := a0a (i := 0) hT3 rfl
  have a1 := a0a (i := 1) hT3 rfl
  have a2 := a0a (i := 2) hT3 rfl
  have a3 := a0a (i := 3) hT3 rfl
  have b2 := a0l hb3 c2
  have b4 := a0l hb3 x1
  have b5 := (hb3.frozen (p := ⟨p.F, k * 4 + 1, none⟩) hF).trans xf
  have hz3 := a0n hT3
  have htop := a3s p.B p.F p.fc k w3 b2 (by omega)
  go_wp2_with (go_at_call 76; refine htop.mono ?_; rintro e w4 ⟨rfl, m4, rfl⟩)
  obtain ⟨hP, hown1⟩ := (h.on (a1q (n := m4) hb3)).setPC2 e (pc + 1)
  obtain ⟨hP0, _⟩ := h.setPC2 e (pc + 1)
  rw [hk] at hP hP0
  have hmk : MK p.own (W.setCell ⟨p.F, k * 4 + 1, none⟩ (.int .i64 (pc + 1))) p.own ((w3.drewN m4).setCell ⟨p.F, k * 4 + 1, none⟩ (.int .i64 (pc + 1))) := MK.later (a1q (n := m4) hb3) a2f
  have hmk0 : MK p.own W p.own (W.setCell ⟨p.F, k * 4 + 1, none⟩ (.int .i64 (pc + 1))) := MK.set a2f
  obtain ⟨X4, hX4⟩ := exq ((w3.drewN m4).setCell ⟨p.F, k * 4 + 1, none⟩ (.int .i64 (pc + 1)))
  have hT4 : X4.heap[w1.heap.size]? = some (.cells #[.int .i64 (n : Nat), .int .i64 0, .int .i64 d, .slice (some ⟨gN, 0, none⟩) r r] 50) := by rw [← hX4]; exact (a0f _ _ (by omega)).trans hT3
  have hO4 : OwnR X4 gN 30 3 r r (flat (a0x pr r ag)) := hO3.same (by rw [← hX4]; exact a0f _ _ (by omega))
  rw [hX4] at hP hmk
  rw [hX4]
  clear hX4 a0 a1 a2 a3 b2 b4 b5
  obtain ⟨p1, hp1⟩ : ∃ p1 : Mp, { p with fw := l ++ [{ q with x := { q.x with pc := pc + 1 } }] } = p1 := ⟨_, rfl⟩
  rw [hp1] at hP hP0 hown1
  have eB : p1.B = p.B := by rw [← hp1]
  have eF : p1.F = p.F := by rw [← hp1]
  have efc : p1.fc = p.fc := by rw [← hp1]
  have eap : p1.ap = p.ap := by rw [← hp1]
  clear hp1
  have a0 := a0a (i := 0) hT4 rfl
  have a1 := a0a (i := 1) hT4 rfl
  have a2 := a0a (i := 2) hT4 rfl
  have a3 := a0a (i := 3) hT4 rfl
  have hbU := a0c (a0i (Below.refl X4.heap.size X4)) (.cells #[.int .i64 (n : Nat), .int .i64 0, .int .i64 d, .slice (some ⟨gN, 0, none⟩) r r] 50)
  have hgU : (X4.drew.alloc (.cells #[.int .i64 (n : Nat), .int .i64 0, .int .i64 d, .slice (some ⟨gN, 0, none⟩) r r] 50)).heap[X4.heap.size]? = some (.cells #[.int .i64 (n : Nat), .int .i64 0, .int .i64 d, .slice (some ⟨gN, 0, none⟩) r r] 50) := a0h X4.drew _
  obtain ⟨U, hU⟩ := exq (X4.drew.alloc (.cells #[.int .i64 (n : Nat), .int .i64 0, .int .i64 d, .slice (some ⟨gN, 0, none⟩) r r] 50))
  rw [hU] at hbU hgU
  have hu := hP.on hbU
  have hlen1 : (l.map Fw.x ++ [{ q.x with pc := pc + 1 }]).length = k + 1 := by simp [hk]
  have d2 := hP.cells.2.2.1
  have d3 := hu.cells.2.2.1
  have hown := hu.fo.owns (base := w0.heap.size) (hu.lo _ a2f)
  simp only [hlen1] at d2 d3 hown
  rw [eB, eF, efc] at d2 d3
  rw [eF, efc] at hown
  obtain ⟨i0, hi0, hz0, hz1', hz2⟩ := a1h b0v
  have hnews : ∀ j x, [Value.int .i64 (n : Nat), Value.int .i64 0, Value.int .i64 d, Value.slice (some ⟨gN, 0, none⟩) r r][j]? = some x → U.cell? ((⟨X4.heap.size, 0, none⟩ : Addr).add j) = some x := fun j x hx => by
   match j, hx with
   | 0, hx => cases hx; exact a0a (i := 0) hgU rfl
   | 1, hx => cases hx; exact a0a (i := 1) hgU rfl
   | 2, hx => cases hx; exact a0a (i := 2) hgU rfl
   | 3, hx => cases hx; exact a0a (i := 3) hgU rfl
   | j + 4, hx => simp at hx
  have hone : ∀ x ∈ [Value.int .i64 (n : Nat), Value.int .i64 0, Value.int .i64 d, Value.slice (some ⟨gN, 0, none⟩) r r], x.oneCell' = true := fun x hx => by simp at hx; rcases hx with rfl | rfl | rfl | rfl <;> rfl
  have h63 : k + 1 + 1 ≤ maxLen := by unfold maxLen; omega
  have hby : (k + 1 + 1) * 48 ≤ 140737488355328 := by omega
  have hsz := hu.bl.size
  have apx := a1f h.nd
  have hneF : some p.B ≠ some p.F := fun e => apx.bf (Option.some.inj e)
  have hbx := hu.box
  rw [eB] at hbx
  have hltB := hu.lt _ a1d
  rw [eB] at hltB
  replace hlen1 : Hid _ := hlen1
  replace hu : Hid _ := hu
  replace hP0 : Hid _ := hP0
  clear hP hO3 hT3 hT6
  go_region_law (first | (refine step_append_lies _ (by rfl) _ _ _ (by rfl) w0.heap.size 50 i0 _ 4 48 Tryz.underlying25 hi0 hz0 hz1' hz2 rfl (by omega) (.slice (some ⟨p.F, 0, none⟩) (k + 1) p.fc) (k + 1) _ (by rfl) hown ⟨X4.heap.size, 0, none⟩ 1 1 [Value.int .i64 (n : Nat), Value.int .i64 0, Value.int .i64 d, Value.slice (some ⟨gN, 0, none⟩) r r] (by rfl) (by rfl) hnews hone (by omega) h63 hby hsz _ rfl ?_; intro g3 cap3 w5 hown3 hgrow hat hlt3; have p5 := (hgrow.block _ hltB hneF).trans hbx; have q5 := a0a (i := 2) p5 rfl; have f5 : w5.frozen? ⟨p.B, 2, none⟩ = false := a0e p5))
  all_goals
   have hown3' : w5.ownsRow w0.heap.size 50 4 (.slice (some ⟨g3, 0, none⟩) ((l.map Fw.x ++ [{ q.x with pc := pc + 1 }]).length + 1) cap3) ((l.map Fw.x ++ [{ q.x with pc := pc + 1 }]).length + 1) (a0p p1.fw ++ [Value.int .i64 (n : Nat), Value.int .i64 0, Value.int .i64 d, Value.slice (some ⟨gN, 0, none⟩) (a0x pr r ag).length r]) := by rw [hlen1.out, hrs.out]; exact hown3
   have hgr : U.grownBy w5 (some p1.F) := by rw [eF]; exact hgrow
   have hat' : p1.F = g3 ∨ g3 = U.heap.size := by
    rw [eF]
    rcases hat with e | e
    ·exact .inl (Option.some.inj e)
    ·exact .inr e
   have hO5 : OwnR U gN 30 3 (a0x pr r ag).length r (flat (a0x pr r ag)) := by rw [hrs.out]; exact hO4.same (hbU.block gN hO4.lt)
   have hmkU := hmk.trans (MK.below (O := p.own) hbU)
   rw [← hown1] at hmkU
   obtain ⟨p', z1, z2, hM, hK⟩ := hP0.out.push hmkU hu.out (q := ⟨⟨n, 0, d, a0x pr r ag⟩, gN, r⟩) (by show _ ≤ gN; simp; omega) hO5 hown3' hgr hat'
   rw [hown1] at hK
   have hlx := hlen1.out
   simp only [hlx, eB] at hM hK
   go_end0
   exact ⟨rfl, p', z1.trans eB, z2.trans eap, hM, hmk0.trans hK⟩
end
end
end Go.Proofs.YthpgbienakcbeaaGreatDoor
