/- A call is begun, at the machine. -/
import Derived.Test.YthpgbienakcbeaaGreatDoorS41
import Derived.Test.YthpgbienakcbeaaGreatDoorS42
import Derived.Test.YthpgbienakcbeaaGreatDoorS48
import Derived.Test.YthpgbienakcbeaaGreatDoorS47
namespace Go.Proofs.YthpgbienakcbeaaGreatDoor
open Go.RowKit Go
set_option maxRecDepth 100000
set_option maxHeartbeats 8000000
set_option linter.all false
variable {W V W' w : World} {R : Int ⊕ St} {fs : List Fd} {main : Int} {l : List Fw} {q : Fw} {E : Ending} {F : Int → Vl → Vl → Vl × Int} {o : Od} {s : St} {r m : Nat} {ag : List Vl} {v : Vl}
section
variable [DecidableEq Vl]
section
variable {w0 : World} {p : Mp} {fv : Value} {mn : Int} {s : St} {W : World}
theorem DQ.from {e : Ending} (hb : Below W.heap.size W V) (h : DQ w0 p fv mn s V R e W') : DQ w0 p fv mn s W R e W' := by
 cases R with
 | inl c =>
  obtain ⟨h1, p', a1, a2, a3, a4⟩ := h
  exact ⟨h1, p', a1, a2, a3, (MK.below hb).trans a4⟩
 | inr t =>
  obtain ⟨h1, p', a1, a2, a3, a4⟩ := h
  exact ⟨h1, p', a1, a2, a3, (MK.below hb).trans a4⟩
def b4u (fs : List Fd) (s : St) (l : List Fw) (q : Fw) (a b c : Nat) : Int ⊕ St :=
 if (rgV q.x b).k = 5 then (if l.length + 1 = 40 then .inl 1 else .inr { s with fr := l.map Fw.x ++ [{ q.x with pc := q.x.pc + 1 }, newF fs (rgV q.x b).n a ((q.x.rs.drop (b + 1)).take c)] }) else .inl 3
theorem c6k (hp : a2i fs main = true) (hP : b0h w0 fv fs) (h : Mc w0 p fv mn s W) (hg : Good fs s) (e : p.fw = l ++ [q]) (a b c : Nat) (hbc : b + c < q.x.rs.length) (hc5 : c ≤ 5) :
  Calls Tryz.prog 78 #[.pointer (some ⟨p.B, 0, none⟩), .slice (some ⟨q.g, b * 3, none⟩) (c + 1) (q.c - b), .int .i64 (a : Nat)] W (DQ w0 p fv mn s W (b4u fs s l q a b c)) := by
 have hq : q ∈ p.fw := by rw [e]; simp
 have hfr : s.fr = l.map Fw.x ++ [q.x] := by rw [← h.hf, e]; simp
 have hx : FG fs s.tb.length q.x := hg.fg q.x (by rw [hfr]; simp)
 have hrb : q.x.rs[b]? = some (rgV q.x b) := by
  have : b < q.x.rs.length := by omega
  simp [rgV, this]
 have hv := VG.rg hx b
 obtain ⟨⟨v0, v1, v2⟩, _, _, _⟩ := h.reg hq hrb
 unfold b4u
 by_cases h5 : (rgV q.x b).k = 5
 ·rw [if_pos h5]
  rw [h5] at v0
  obtain ⟨_, _, c2, _⟩ := h.cells
  have hlen : s.fr.length = l.length + 1 := by rw [hfr]; simp
  by_cases h40 : l.length + 1 = 40
  ·rw [if_pos h40]
   rw [hlen, h40] at c2
   refine (c1h p.B p.F p.fc (.int .i64 (a : Nat)) q.g (b * 3) (c + 1) (q.c - b) W v0 (by omega) c2).mono fun E W' hh => ?_
   obtain ⟨h1, rfl⟩ := hh
   exact ⟨h1, p, rfl, rfl, h, MK.refl _ _⟩
  ·rw [if_neg h40]
   obtain ⟨f, _, hf, _, _, _, _, _, k2, k3, _⟩ := hx.order hp
   obtain ⟨n0, n1⟩ := hv.fn h5
   obtain ⟨n, hn⟩ : ∃ n : Nat, (rgV q.x b).n = n := ⟨(rgV q.x b).n.toNat, by omega⟩
   rw [hn] at v1 n1
   simp only [Int.toNat_natCast] at n1
   have hgf : fs[n]? = some fs[n] := List.getElem?_eq_getElem n1
   have hk := a5r hp hgf
   have hkx := a5r hp hf
   obtain ⟨fa, fcp, rfl, hR⟩ := hP.ex
   have hR' := hR.below h.bl
   obtain ⟨fb, off, rfl, hfb, hel⟩ := hR'.2 (fun e => by rw [e] at n1; simp at n1)
   obtain ⟨h1, h2, h3⟩ := hel _ _ hgf
   have r0 := h1.p
   have r1 := h1.r
   obtain ⟨pr, hpr⟩ : ∃ pr : Nat, fs[n].p = pr := ⟨fs[n].p.toNat, by have := hk.p0; omega⟩
   obtain ⟨r, hr⟩ : ∃ r : Nat, fs[n].r = r := ⟨fs[n].r.toNat, by have := hk.r1; omega⟩
   rw [hpr] at r0
   rw [hr] at r1
   have hk1 := hk.pr
   have hk2 := hk.r2
   rw [hpr, hr] at hk1
   rw [hr] at hk2
   have hcap : q.x.rs.length ≤ q.c := by
    obtain ⟨_, _, _, hh, _⟩ := h.rg q hq
    exact hh
   have hn40 := hg.n2
   have hnew : newF fs (rgV q.x b).n a ((q.x.rs.drop (b + 1)).take c) = ⟨n, 0, a, a0x pr r ((q.x.rs.drop (b + 1)).take c)⟩ := by
    simp only [newF, hn, Int.toNat_natCast, hgf, hpr, hr]
   have hag : ((q.x.rs.drop (b + 1)).take c).length = c := by rw [List.length_take, List.length_drop]; omega
   have hres : ({ s with fr := l.map Fw.x ++ [{ q.x with pc := q.x.pc + 1 }, newF fs (rgV q.x b).n a ((q.x.rs.drop (b + 1)).take c)] } : St) = { s with fr := l.map Fw.x ++ [{ q.x with pc := q.x.pc + 1 }] ++ [⟨n, 0, a, a0x pr r ((q.x.rs.drop (b + 1)).take c)⟩] } := by rw [hnew]; simp
   have hpc2 : q.x.pc ≤ 1000000 := by have := hkx.i2; omega
   rw [hres]
   by_cases hc1 : q.c - b = 1
   ·have hc0 : c = 0 := by omega
    subst hc0
    rw [hc1]
    exact c5t h e l.length rfl (by omega) fb off fcp fs.length rfl b n r pr a q.x.pc _ rfl (by omega) hpc2 v0 v1 n1 r0 r1 (by omega) (by omega) hag
   ·refine d0b h e l.length rfl (by omega) fb off fcp fs.length rfl b c (q.c - b) n r pr a q.x.pc _ rfl (by omega) hpc2 v0 v1 n1 r0 r1 (by omega) (by omega) hag (fun j x hj => ?_) (by omega) hc1 hc5
    have hj' := (List.getElem?_eq_some_iff.1 hj).1
    rw [hag] at hj'
    rw [List.getElem?_take_of_lt hj', List.getElem?_drop] at hj
    have := (h.reg hq hj).t
    rw [show b * 3 + 3 + j * 3 = (b + 1 + j) * 3 by omega]
    exact this
 ·rw [if_neg h5]
  refine (c5s _ (.int .i64 (a : Nat)) q.g (b * 3) (c + 1) (q.c - b) _ W v0 (by simpa using h5) (by omega)).mono fun E W' hh => ?_
  obtain ⟨h1, rfl⟩ := hh
  exact ⟨h1, p, rfl, rfl, h, MK.refl _ _⟩
end
section
variable {w0 : World} {p : Mp} {fv : Value} {mn : Int} {s : St} {W : World}
theorem DQ.two (h : DQ w0 p fv mn s W R E W') : (∃ cc, E = .panicked (pan (flr cc)) ∧ DQ w0 p fv mn s W R E W') ∨ (E = .returned (.tuple #[]) ∧ DQ w0 p fv mn s W R E W') := by
 cases R with
 | inl c => exact .inl ⟨c, h.1, h⟩
 | inr t => exact .inr ⟨h.1, h⟩
theorem d0p (hp : a2i fs main = true) (hP : b0h w0 fv fs) (h : Mc w0 p fv mn s W) (hg : Good fs s) (e : p.fw = l ++ [q]) (hl : l.length ≤ 1000) (a b c : Nat) (hbc : b + c < q.x.rs.length) (hc5 : c ≤ 5) (h250 : q.x.rs.length ≤ 250) :
  Calls Tryz.prog 53 #[.pointer (some ⟨p.B, 0, none⟩), .agg #[.int .i64 11, .int .i64 (a : Nat), .int .i64 (b : Nat), .int .i64 (c : Nat)]] W (DQ w0 p fv mn s W (b4u fs s l q a b c)) := by
 have hlen : s.fr.length = l.length + 1 := by rw [← h.hf, e]; simp
 have hq : q ∈ p.fw := by rw [e]; simp
 have hb := a0c (Below.refl W.heap.size W) (.cells #[.int .i64 11, .int .i64 (a : Nat), .int .i64 (b : Nat), .int .i64 (c : Nat)] 82)
 have hgb : (W.alloc (.cells #[.int .i64 11, .int .i64 (a : Nat), .int .i64 (b : Nat), .int .i64 (c : Nat)] 82)).heap[W.heap.size]? = some (.cells #[.int .i64 11, .int .i64 (a : Nat), .int .i64 (b : Nat), .int .i64 (c : Nat)] 82) := a0h _ _
 obtain ⟨w1, hw1⟩ := exq (W.alloc (.cells #[.int .i64 11, .int .i64 (a : Nat), .int .i64 (b : Nat), .int .i64 (c : Nat)] 82))
 rw [hw1] at hb hgb
 have h1 := h.on hb
 obtain ⟨_, x1, _, x3, xf⟩ := h1.topCells e
 have c2 := h1.cells.2.2.1
 rw [hlen] at c2
 have o0 := a0a (i := 0) hgb rfl
 have o1 := a0a (i := 1) hgb rfl
 have o2 := a0a (i := 2) hgb rfl
 have o3 := a0a (i := 3) hgb rfl
 have hcall : ∀ w2, Below W.heap.size W w2 → Calls Tryz.prog 78 #[.pointer (some ⟨p.B, 0, none⟩), .slice (some ⟨q.g, b * 3, none⟩) (c + 1) (q.c - b), .int .i64 (a : Nat)] w2 fun E W' => (∃ cc, E = .panicked (pan (flr cc)) ∧ DQ w0 p fv mn s W (b4u fs s l q a b c) E W') ∨ (E = .returned (.tuple #[]) ∧ DQ w0 p fv mn s W (b4u fs s l q a b c) E W') := fun w2 hb => (c6k hp hP (h.on hb) hg e a b c hbc hc5).mono fun E W' k => DQ.two (DQ.from hb k)
 have hcap : q.x.rs.length ≤ q.c := by
  obtain ⟨_, _, _, hh, _⟩ := h.rg q hq
  exact hh
 obtain ⟨R, hR⟩ := exq (b4u fs s l q a b c)
 rw [hR] at hcall ⊢
 obtain ⟨k, hk⟩ := exq (l.length)
 obtain ⟨n, hn⟩ := exq (q.x.rs.length)
 rw [hk] at hl c2 x3 x1 xf
 rw [hn] at hbc x3 hcap h250
 have ht := a3s p.B p.F p.fc k w1 c2 hl
 replace hcall : Hid _ := hcall
 have w1e : IntKind.i64.wrap ((b : Int) + 1) = (b : Int) + 1 := IntWalk.i64_in _ ⟨by omega, by omega⟩
 have w2e : IntKind.i64.wrap ((b : Int) + 1 + (c : Int)) = (b : Int) + 1 + (c : Int) := IntWalk.i64_in _ ⟨by omega, by omega⟩
 have q7 : (0 : Int) ≤ (b : Int) + 1 + (c : Int) := by omega
 have q8 : (b : Int) + 1 + (c : Int) ≤ (q.c : Int) := by omega
 have q9 : ((b : Int) + 1 + (c : Int)).toNat = b + 1 + c := by omega
 have q5 : b ≤ b + 1 + c := by omega
 have q2 : b + 1 + c ≤ q.c := by omega
 have q3 : ¬ q.c = b := by omega
 have q4 : b + 1 + c - b = c + 1 := by omega
 clear hk hn hlen hR
 go_enter Tryz.func53, Tryz.ntmps53
 go_wp2_with (go_at_call 76; refine ht.mono ?_; rintro e w2 ⟨rfl, m, rfl⟩)
 have hbD : Below W.heap.size W (w1.drewN m).drew := a0i (a1q hb)
 refine wp_region_still_tail 16 (by kernel_rfl) (by kernel_rfl) ?_
 change wpStill _ _ (w1.drewN m).drew _ _ _
 simp only [List.take_succ_cons, List.take_zero, List.drop_succ_cons, List.drop_zero]
 repeat still_step
 refine wpStill_nil ?_
 go_wp2_with (go_at_call 78; refine (hcall.out _ hbD).mono ?_; rintro E w3 (⟨cc, rfl, hD⟩ | ⟨rfl, hD⟩))
 ·exact ⟨rfl, hD⟩
 ·go_end0
  exact hD
def plS (s : St) (l : List Fw) : Int ⊕ (Frm × List Tb × List ByteArray) → Int ⊕ St
 | .inl c => .inl c
 | .inr (y, tb, out) => .inr { s with fr := l.map Fw.x ++ [{ y with pc := y.pc + 1 }], tb := tb, out := out }
structure PlT (w0 : World) (p : Mp) (fv : Value) (mn : Int) (s : St) (l : List Fw) (W : World) (y : Frm) (tb : List Tb) (out : List ByteArray) (W' : World) (p' : Mp) (q' : Fw) : Prop where
 b : p'.B = p.B
 a : p'.ap = p.ap
 F : p'.F = p.F
 fw : p'.fw = l ++ [q']
 x : q'.x = y
 M : Mc w0 p' fv mn { s with fr := l.map Fw.x ++ [y], tb := tb, out := out } W'
 K : MK p.own W p'.own W'
theorem PlQ.two {R : Int ⊕ (Frm × List Tb × List ByteArray)} (h : PlQ w0 p fv mn s l W R E W') : (∃ c, R = .inl c ∧ E = .panicked (pan (flr c)) ∧ Below W.heap.size W W') ∨ (∃ y tb out p' q', R = .inr (y, tb, out) ∧ E = .returned (.tuple #[]) ∧ PlT w0 p fv mn s l W y tb out W' p' q') := by
 cases R with
 | inl c => exact .inl ⟨c, rfl, h.1, h.2⟩
 | inr r =>
  obtain ⟨y, tb, out⟩ := r
  obtain ⟨h1, p', q', a1, a2, a3, a4, a5, a6, a7⟩ := h
  exact .inr ⟨y, tb, out, p', q', rfl, h1, ⟨a1, a2, a3, a4, a5, a6, a7⟩⟩
theorem c6l (h : Mc w0 p fv mn s W) (e : p.fw = l ++ [q]) (hl : l.length ≤ 1000) (o : Od) (n8 : (o.op == 8) = false) (n9 : (o.op == 9) = false) (n10 : (o.op == 10) = false) (n11 : (o.op == 11) = false) (n12 : (o.op == 12) = false) (R : Int ⊕ (Frm × List Tb × List ByteArray)) (hR : ∀ y tb out, R = .inr (y, tb, out) → 0 ≤ y.pc ∧ y.pc ≤ 1000000) (hpl : ∀ w2, Below W.heap.size W w2 → Calls Tryz.prog 80 #[.pointer (some ⟨p.B, 0, none⟩), .slice (some ⟨q.g, 0, none⟩) q.x.rs.length q.c, o.v] w2 (PlQ w0 p fv mn s l w2 R)) :
  Calls Tryz.prog 53 #[.pointer (some ⟨p.B, 0, none⟩), o.v] W (DQ w0 p fv mn s W (plS s l R)) := by
 have hD := doAt h e o
 obtain ⟨op, oa, ob, oc, _, _, _, _⟩ := o
 simp only at n8 n9 n10 n11 n12 hD hpl ⊢
 obtain ⟨k, hk⟩ := exq (l.length)
 rw [hk] at hD hl
 obtain ⟨w1, hw1⟩ := exq (W.alloc (.cells #[.int .i64 op, .int .i64 oa, .int .i64 ob, .int .i64 oc] 82))
 rw [hw1] at hD
 obtain ⟨hb, hg, c2, f1, f3, z1⟩ := hD
 have o0 := a0a (i := 0) hg rfl
 have o1 := a0a (i := 1) hg rfl
 have o2 := a0a (i := 2) hg rfl
 have o3 := a0a (i := 3) hg rfl
 have ht := a3s p.B p.F p.fc k w1 c2 hl
 have hpl' : ∀ w2, Below W.heap.size W w2 → Calls Tryz.prog 80 #[.pointer (some ⟨p.B, 0, none⟩), .slice (some ⟨q.g, 0, none⟩) q.x.rs.length q.c, .agg #[.int .i64 op, .int .i64 oa, .int .i64 ob, .int .i64 oc]] w2 fun E W' => (∃ c, R = .inl c ∧ E = .panicked (pan (flr c)) ∧ Below w2.heap.size w2 W') ∨ (∃ y tb out p' q', R = .inr (y, tb, out) ∧ E = .returned (.tuple #[]) ∧ PlT w0 p fv mn s l w2 y tb out W' p' q') := fun w2 hb => (hpl w2 hb).mono fun E W' k => PlQ.two k
 have hO : ∀ w2 w3 y tb out p' q', PlT w0 p fv mn s l w2 y tb out w3 p' q' → w3.cell? ⟨p.F, k * 4 + 1, none⟩ = some (.int .i64 y.pc) ∧ w3.frozen? ⟨p.F, k * 4 + 1, none⟩ = false := fun w2 w3 y tb out p' q' hh => by
  obtain ⟨_, x1, _, _, xf⟩ := hh.M.topCells hh.fw
  rw [hk, hh.F] at x1 xf
  rw [hh.x] at x1
  exact ⟨x1, xf⟩
 obtain ⟨R', hR'⟩ := exq (plS s l R)
 rw [hR']
 replace hR' : Hid _ := hR'
 replace hpl' : Hid _ := hpl'
 replace hO : Hid _ := hO
 replace hR : Hid _ := hR
 replace hk : Hid _ := hk
 have hon : ∀ w2, Below W.heap.size W w2 → Mc w0 p fv mn s w2 := fun w2 hb => h.on hb
 replace hon : Hid _ := hon
 clear hpl h e
 go_enter Tryz.func53, Tryz.ntmps53
 go_wp2_with (go_at_call 76; refine ht.mono ?_; rintro e w2 ⟨rfl, m, rfl⟩)
 have hbD : Below W.heap.size W (w1.drewN m).drew := a0i (a1q hb)
 refine wp_region_still_tail 6 (by kernel_rfl) (by kernel_rfl) ?_
 change wpStill _ _ (w1.drewN m).drew _ _ _
 simp only [List.take_succ_cons, List.take_zero, List.drop_succ_cons, List.drop_zero]
 repeat still_step
 refine wpStill_nil ?_
 go_wp2_with (go_at_call 80; refine (hpl'.out _ hbD).mono ?_; rintro E w3 (⟨cc, hRc, rfl, hb3⟩ | ⟨y, tb, out, p', q', hRy, rfl, hT⟩); (exact ⟨rfl, by rw [← hR'.out, hRc]; exact ⟨rfl, p, rfl, rfl, hon.out _ (a0b hbD hb3), MK.below (a0b hbD hb3)⟩⟩); obtain ⟨x1, xf⟩ := hO.out _ _ _ _ _ _ _ hT; obtain ⟨y1, y2⟩ := hR.out _ _ _ hRy)
 have hT' := hT
 obtain ⟨a1, a2, a3, a4, a5, a6, a7⟩ := hT'
 obtain ⟨p2, g1, g2, _, _, hown, hP⟩ := a6.setPC3 a4 (y.pc + 1)
 rw [hk.out, a3, a5] at hP
 have hmk : MK p'.own w3 p2.own (w3.setCell ⟨p.F, k * 4 + 1, none⟩ (.int .i64 (y.pc + 1))) := by rw [hown, ← a3]; exact MK.set a2f
 go_end0
 rw [← hR'.out, hRy]
 exact ⟨rfl, p2, g1.trans a1, g2.trans a2, hP, (MK.below hbD).trans (a7.trans hmk)⟩
end
section
variable {w0 : World} {p : Mp} {fv : Value} {mn : Int} {s : St} {W : World}
theorem d2w (hF : OpF F) (hp : a2i fs main = true) (hP : b0h w0 fv fs) (ht : PTab w0) (h : Mc w0 p fv mn s W) (hg : Good fs s) (e : p.fw = l ++ [q]) (ho : orderAt fs q.x = some o) :
  Calls Tryz.prog 53 #[.pointer (some ⟨p.B, 0, none⟩), o.v] W (DQ w0 p fv mn s W (doR F fs o (l.map Fw.x) q.x s)) := by
 have hfr : s.fr = l.map Fw.x ++ [q.x] := by rw [← h.hf, e]; simp
 have hx : FG fs s.tb.length q.x := hg.fg q.x (by rw [hfr]; simp)
 obtain ⟨f, o', hf, _, ho', hi, hk, k1, k2, k3, k4, k5, _⟩ := hx.order hp
 rw [ho] at ho'
 cases ho'
 have hlen : s.fr.length = l.length + 1 := by rw [hfr]; simp
 have h40 := hg.n2
 have hl : l.length ≤ 1000 := by omega
 have hi2 := hk.i2
 have hr2 := hk.r2
 unfold doR
 by_cases e8 : o.op = 8 ∨ o.op = 10
 ·rw [if_pos e8]
  refine (d0c h e hl o e8).mono fun E W' hh => ?_
  obtain ⟨rfl, V, hb, rfl⟩ := hh
  obtain ⟨p', a1, a2, a3, a4, a5, a6⟩ := (h.on hb).setPC3 e o.a
  exact ⟨rfl, p', a1, a2, a6, (MK.below hb).trans (by rw [a5]; exact MK.set a2f)⟩
 rw [if_neg e8]
 by_cases e9 : o.op = 9
 ·rw [if_pos e9]
  obtain ⟨a0, a1, _, _⟩ := b4k hi e9
  obtain ⟨a, ha, la, ra⟩ := a2b k4 a0 a1
  have e' : o.v = .agg #[.int .i64 9, .int .i64 (a : Nat), .int .i64 o.b, .int .i64 o.c] := by rw [← e9, ← ha]
  rw [e']
  refine (d0d h e hl a o.b o.c ra q.x.pc rfl k2 (by omega)).mono fun E W' hh => ?_
  obtain ⟨rfl, p', b1, b2, b3, b4⟩ := hh
  exact ⟨rfl, p', b1, b2, b3, b4⟩
 rw [if_neg e9]
 by_cases e11 : o.op = 11
 ·rw [if_pos e11]
  obtain ⟨a0, a1, b0, b1, c0, c1, d0, d1⟩ := b1s hi e11
  obtain ⟨a, ha⟩ : ∃ a : Nat, o.a = a := ⟨o.a.toNat, by omega⟩
  obtain ⟨b, hb⟩ : ∃ b : Nat, o.b = b := ⟨o.b.toNat, by omega⟩
  obtain ⟨c, hc⟩ : ∃ c : Nat, o.c = c := ⟨o.c.toNat, by omega⟩
  have hw : wrap64 (o.b + o.c) = o.b + o.c := a6d (by omega) (by omega)
  rw [hw] at d1
  have e' : o.v = .agg #[.int .i64 11, .int .i64 (a : Nat), .int .i64 (b : Nat), .int .i64 (c : Nat)] := by rw [← e11, ← ha, ← hb, ← hc]
  rw [e']
  have hh := d0p hp hP h hg e hl a b c (by omega) (by omega) (by omega)
  rw [ha, hb, hc]
  unfold b4u at hh
  simpa using hh
 rw [if_neg e11]
 by_cases e12 : o.op = 12
 ·rw [if_pos e12]
  obtain ⟨a0, a1⟩ := a8q hi (.inr (.inl e12))
  obtain ⟨a, ha, la, ra⟩ := a2b k4 a0 a1
  have e' : o.v = .agg #[.int .i64 12, .int .i64 (a : Nat), .int .i64 o.b, .int .i64 o.c] := by rw [← e12, ← ha]
  rw [e']
  refine (d2p h hg e hl a o.b o.c ra).mono fun E W' hh => ?_
  obtain ⟨rfl, p', b1, b2, b3, b4⟩ := hh
  unfold retS at b3
  cases hq : (l.map Fw.x).getLast? with
  | none => rw [hq] at b3; exact ⟨rfl, p', b1, b2, b3, b4⟩
  | some y => rw [hq] at b3; exact ⟨rfl, p', b1, b2, b3, b4⟩
 rw [if_neg e12]
 have n8 : ¬ o.op = 8 := fun z => e8 (.inl z)
 have n10 : ¬ o.op = 10 := fun z => e8 (.inr z)
 have hh := c6l h e hl o (by simpa using n8) (by simpa using e9) (by simpa using n10) (by simpa using e11) (by simpa using e12) (a4a F fs o q.x s.tb s.out) (fun y tb out hy => ?_) (fun w2 hb => c1z hF hp hP ht (h.on hb) hg e ho n8 e9 n10 e11 e12)
 ·cases hr : a4a F fs o q.x s.tb s.out with
  | inl c => rw [hr] at hh; exact hh
  | inr r =>
   obtain ⟨y, tb, out⟩ := r
   rw [hr] at hh
   exact hh
 ·have := a8l hF hp (o := o) (out := s.out) hx hf hi hg.t2 hg.tg hg.o2 n8 e9 n10 e11 e12
  rw [hy] at this
  obtain ⟨z1, _⟩ := this
  rw [z1]
  exact ⟨k2, by omega⟩
end
section
variable {w0 : World} {p : Mp} {fv : Value} {mn : Int} {s : St} {W : World}
theorem c2a (hF : OpF F) (hp : a2i fs main = true) (hP : b0h w0 fv fs) (ht : PTab w0) (h : Mc w0 p fv mn s W) (hg : Good fs s) (e : p.fw = l ++ [q]) (ho : orderAt fs q.x = some o) (c : Nat) (hc : W.heap[c]? = some (.cells #[.pointer (some ⟨p.B, 0, none⟩)] 44)) (hn : c ∉ p.own) :
  Calls Tryz.prog 52 #[.pointer (some ⟨c, 0, none⟩)] W (DQ w0 p fv mn s W (doR F fs o (l.map Fw.x) q.x s)) := by
 have hfr : s.fr = l.map Fw.x ++ [q.x] := by rw [← h.hf, e]; simp
 have c0 : W.cell? ⟨c, 0, none⟩ = some (.pointer (some ⟨p.B, 0, none⟩)) := a0a hc rfl
 have hord : ∀ w2, Below W.heap.size W w2 → Calls Tryz.prog 54 #[.pointer (some ⟨p.B, 0, none⟩)] w2 fun e W' => e = .returned o.v ∧ Below w2.heap.size w2 W' := fun w2 hb => c9t hp hP (h.on hb) hg hfr ho
 obtain ⟨R, hR⟩ := exq (doR F fs o (l.map Fw.x) q.x s)
 have hdo : ∀ w2, Below W.heap.size W w2 → Calls Tryz.prog 53 #[.pointer (some ⟨p.B, 0, none⟩), o.v] w2 fun E W' => (∃ cc, E = .panicked (pan (flr cc)) ∧ DQ w0 p fv mn s W R E W') ∨ (E = .returned (.tuple #[]) ∧ DQ w0 p fv mn s W R E W' ∧ W'.cell? ⟨c, 0, none⟩ = some (.pointer (some ⟨p.B, 0, none⟩))) := fun w2 hb => by
  have := d2w hF hp hP ht (h.on hb) hg e ho
  rw [hR] at this
  refine this.mono fun E W' k => ?_
  rcases DQ.two k with ⟨cc, h1, h2⟩ | ⟨h1, h2⟩
  ·exact .inl ⟨cc, h1, DQ.from hb h2⟩
  ·refine .inr ⟨h1, DQ.from hb h2, ?_⟩
   cases R with
   | inl c' => rw [h1] at h2; cases h2.1
   | inr t =>
    obtain ⟨_, p', _, _, _, a4⟩ := h2
    exact a0a (a4.box ((hb.block c (a0n hc)).trans hc) hn).1 rfl
 rw [hR]
 replace hord : Hid _ := hord
 replace hdo : Hid _ := hdo
 clear hR
 go_enter Tryz.func52, Tryz.ntmps52
 go_region_held2 (fun u => u.cell? ⟨c, 0, none⟩ = some (.pointer (some ⟨p.B, 0, none⟩))) (go_keep) (first | (go_at_call 54; refine (hord.out _ (a0i (Below.refl _ _))).mono ?_; rintro E w2 ⟨rfl, hb2⟩; have E2 := a0b (a0i (Below.refl W.heap.size W)) hb2; have c1 := a0l E2 c0) | (go_at_call 53; refine (hdo.out _ E2).mono ?_; rintro E w3 (⟨cc, rfl, hD⟩ | ⟨rfl, hD, c3⟩); (exact ⟨rfl, hD⟩)))
 all_goals
  go_wp2
  go_end0
  exact hD
end
theorem c7k {c : Code} {P : Program} {a : Act} {Q : Exit → Act → World → Prop} {R : Act → World → Prop} (h : ∀ Q' : Exit → Act → World → Prop, (∀ a' w', R a' w' → Q' .normal a' w') → c.wp P Q' a w) (hq : ∀ a' w', R a' w' → Q .normal a' w') : c.wp P Q a w := h Q hq
theorem b7r (p : Addr) (w : World) :
  CallsD Tryz.prog 75 #[.pointer (some p)] .returning w fun e u' w' => e = .returned (.tuple #[]) ∧ u' = .returning ∧ w' = w := by
 refine callsD_of_wpS Tryz.func75 rfl fun c₀ cs hu => ?_
 apply wpS_seq
 apply wpS_region
 simp [wpOpsS, go_sem, recoverD, hu, Tryz.ntmps75, Exit.thenS]
 refine wpS_of_wp ?_
 refine c7k (R := fun a' w' => a'.defers = [] ∧ w' = w) (fun Q hQ => ?_) ?_
 ·clear hu
  have hf : #[Value.pointer (some p)] ++ (Array.replicate 11 undef).setIfInBounds 3 Value.nilIface = #[.pointer (some p), undef, undef, undef, .nilIface, undef, undef, undef, undef, undef, undef, undef] := by kernel_rfl
  rw [hf]
  clear hf
  go_wp2
 ·rintro a' w' ⟨h1, rfl⟩
  cases c₀
  simp_all [bodyPostS, results, Tryz.results75]
theorem c2b (b : Nat) (cd : Int) (A0 : Value) (older : List PanicEntry) (w : World) (hc : w.heap[b]? = some (.cells #[A0] 28)) :
  CallsD Tryz.prog 75 #[.pointer (some ⟨b, 0, none⟩)] (.panicking ({ v := .iface 112 (.agg #[.int .i64 cd]), recovered := false } :: older)) w fun e u' w' => e = .returned (.tuple #[]) ∧ u' = .panicking ({ v := .iface 112 (.agg #[.int .i64 cd]), recovered := true } :: older) ∧ w' = (w.setCell ⟨b, 0, none⟩ (.int .i64 cd)).alloc (.cells #[.int .i64 cd] 112) := by
 have hb := a0n hc
 have c0 := a0a (i := 0) hc rfl
 have f0 := a0e (i := 0) hc
 have n1 : ¬ b = w.heap.size := by omega
 have y1 : ∀ u : World, (Instr.typeAssert (.iface 112 (.agg #[.int .i64 cd])) 20 112 true).run Tryz.prog u = .ok (.tuple #[.agg #[.int .i64 cd], .bool true]) u := fun _ => by kernel_rfl
 have n2 : ¬ w.heap.size = b := by omega
 refine callsD_of_wpS Tryz.func75 rfl fun c₀ cs hu => ?_
 apply wpS_seq
 apply wpS_region
 simp [wpOpsS, go_sem, recoverD, hu, Tryz.ntmps75, Exit.thenS]
 refine wpS_of_wp ?_
 refine c7k (R := fun a' w' => a'.defers = [] ∧ w' = (w.setCell ⟨b, 0, none⟩ (.int .i64 cd)).alloc (.cells #[.int .i64 cd] 112)) (fun Q hQ => ?_) ?_
 ·clear hu
  have hf : #[Value.pointer (some ⟨b, 0, none⟩)] ++ (Array.replicate 11 undef).setIfInBounds 3 (Value.iface 112 (.agg #[.int .i64 cd])) = #[.pointer (some ⟨b, 0, none⟩), undef, undef, undef, .iface 112 (.agg #[.int .i64 cd]), undef, undef, undef, undef, undef, undef, undef] := by kernel_rfl
  rw [hf]
  clear hf hc
  go_wp2
 ·rintro a' w' ⟨h1, rfl⟩
  cases c₀
  simp_all [bodyPostS, results, Tryz.results75]
theorem d2x {tm : Array Value} {C : Nat} {x : Value} (h : tm[2]?.getD undef = .pointer (some ⟨C, 0, none⟩)) (hy : W.heap[C]? = some (.cells #[x] 28)) : (results Tryz.f51 tm).run Tryz.prog W = .ok x W := by
 have d0 : W.cell? ⟨C, 0, none⟩ = some x := a0a hy rfl
 simp [results, Tryz.results51, go_sem, h, d0]
section
variable {w0 : World} {p : Mp} {fv : Value} {mn : Int} {s : St} {W : World}
def TQ (w0 : World) (p : Mp) (fv : Value) (mn : Int) (s : St) (W : World) (R : Int ⊕ St) (e : Ending) (W' : World) : Prop :=
 match R with
 | .inl c => e = .returned (.int .i64 c) ∧ ∃ p', p'.B = p.B ∧ p'.ap = p.ap ∧ Mc w0 p' fv mn s W' ∧ MK p.own W p'.own W'
 | .inr t => e = .returned (.int .i64 0) ∧ ∃ p', p'.B = p.B ∧ p'.ap = p.ap ∧ Mc w0 p' fv mn t W' ∧ MK p.own W p'.own W'
theorem a8g (Y : World) (c i : Nat) (v : Value) : a1n (fun k => k = c) Y (Y.setCell ⟨c, i, none⟩ v) := (a1n.refl (fun k => k = c) Y).set c i _ (fun _ => rfl)
theorem d0q (h : Mc w0 p fv mn s W) (R : Int ⊕ St) (c : Nat) (hstep : ∀ w2, Below W.heap.size W w2 → Mc w0 { p with ap := W.heap.size :: p.ap } fv mn s w2 → Calls Tryz.prog 52 #[.pointer (some ⟨c, 0, none⟩)] w2 (DQ w0 { p with ap := W.heap.size :: p.ap } fv mn s w2 R)) :
  Calls Tryz.prog 51 #[.func (.func 52) #[] #[.pointer (some ⟨c, 0, none⟩)]] W (TQ w0 p fv mn s W R) := by
 have hmf := hmf
 have hb1 := a0c (Below.refl W.heap.size W) (.cells #[.int .i64 0] 28)
 have g1 : (W.alloc (.cells #[.int .i64 0] 28)).heap[W.heap.size]? = some (.cells #[.int .i64 0] 28) := a0h _ _
 have hM1 := h.more hb1 (c := W.heap.size) (Nat.le_refl _) (a0n g1)
 have hs1 := hstep _ hb1 hM1
 have hnot : W.heap.size ∉ p.own := fun e => by have := h.lt _ e; omega
 cases R with
 | inl cd =>
  have hs2 : Calls Tryz.prog 52 #[.pointer (some ⟨c, 0, none⟩)] (W.alloc (.cells #[.int .i64 0] 28)) fun E W' => E = .panicked (pan (flr cd)) ∧ ∃ p', p'.B = p.B ∧ p'.ap = W.heap.size :: p.ap ∧ Mc w0 p' fv mn s W' ∧ MK p.own (W.alloc (.cells #[.int .i64 0] 28)) p'.own W' := hs1
  clear hs1 hstep
  go_enter_defers Tryz.func51, Tryz.ntmps51
  go_wp2_with (go_at_call 52; refine hs2.mono ?_; rintro E w2 ⟨rfl, p', e1, e2, hM, hK⟩)
  have g2 := (hK.box g1 hnot).1
  refine leaves_cons (f := 75) (args := #[.pointer (some ⟨W.heap.size, 0, none⟩)]) (by simp) (by simp [go_sem]) ?_
  refine (c2b _ _ _ _ _ g2).mono ?_
  rintro e u' w'' ⟨rfl, rfl, rfl⟩
  have hx := a0k (i := 0) (.int .i64 cd) g2
  have xb := a0c (Below.refl _ (w2.setCell ⟨W.heap.size, 0, none⟩ (.int .i64 cd))) (.cells #[.int .i64 cd] 112)
  refine ⟨_, d2x rfl (a0d xb hx), rfl, { p' with ap := p.ap }, e1, rfl, ?_, ?_⟩
  ·exact (((hM.wrote (c := W.heap.size) (by rw [e2]; simp) h.bl.size (a8g _ _ _ _)).on xb)).less e2
  ·exact (((MK.below hb1).trans hK).scratch (a8g _ _ _ _) (Nat.le_refl _)).trans (MK.below xb)
 | inr t =>
  have hs2 : Calls Tryz.prog 52 #[.pointer (some ⟨c, 0, none⟩)] (W.alloc (.cells #[.int .i64 0] 28)) fun E W' => E = .returned (.tuple #[]) ∧ ∃ p', p'.B = p.B ∧ p'.ap = W.heap.size :: p.ap ∧ Mc w0 p' fv mn t W' ∧ MK p.own (W.alloc (.cells #[.int .i64 0] 28)) p'.own W' := hs1
  clear hs1 hstep
  go_enter_defers Tryz.func51, Tryz.ntmps51
  go_wp2_with (go_at_call 52; refine hs2.mono ?_; rintro E w2 ⟨rfl, p', e1, e2, hM, hK⟩; have g2 := (hK.box g1 hnot).1; have d0 : w2.cell? ⟨W.heap.size, 0, none⟩ = some (.int .i64 0) := a0a g2 rfl; have f0 : w2.frozen? ⟨W.heap.size, 0, none⟩ = false := a0e g2)
  refine leaves_cons (f := 75) (args := #[.pointer (some ⟨W.heap.size, 0, none⟩)]) (by simp) (by simp [go_sem]) ?_
  refine (b7r _ _).mono ?_
  rintro e u' w'' ⟨rfl, rfl, rfl⟩
  have hx := a0k (i := 0) (.int .i64 0) g2
  refine ⟨_, d2x rfl hx, rfl, { p' with ap := p.ap }, e1, rfl, ?_, ?_⟩
  ·exact (hM.wrote (c := W.heap.size) (by rw [e2]; simp) h.bl.size (a8g _ _ _ _)).less e2
  ·exact ((MK.below hb1).trans hK).scratch (a8g _ _ _ _) (Nat.le_refl _)
end
theorem Good.tick (h : Good fs s) (h60 : s.st < 60000) : Good fs { s with st := s.st + 1 } := by
 have h1 := h.s1
 have h2 := h.o1
 exact ⟨h.n1, h.n2, h.dg, h.fg, h.t2, h.tg, by show 0 ≤ s.st + 1; omega, by show s.st + 1 ≤ 60000; omega, by show (s.out.length : Int) ≤ s.st + 1; omega, h.o2, h.e⟩
theorem c6m (hF : OpF F) (hp : a2i fs main = true) (hg : Good fs s) {ini : List Frm} {x : Frm} (e : s.fr = ini ++ [x]) (ho : orderAt fs x = some o) {c : Int} (hc : doR F fs o ini x s = .inl c) : (c != 0) = true := by
 have hx := hg.fg x (by rw [e]; simp)
 obtain ⟨f, o', hf, _, ho', hi, _⟩ := hx.order hp
 rw [ho] at ho'
 cases ho'
 unfold doR at hc
 by_cases e8 : o.op = 8 ∨ o.op = 10
 ·rw [if_pos e8] at hc; cases hc
 rw [if_neg e8] at hc
 by_cases e9 : o.op = 9
 ·rw [if_pos e9] at hc; cases hc
 rw [if_neg e9] at hc
 by_cases e11 : o.op = 11
 ·rw [if_pos e11] at hc
  split at hc
  ·split at hc
   ·cases hc; rfl
   ·cases hc
  ·cases hc; rfl
 rw [if_neg e11] at hc
 by_cases e12 : o.op = 12
 ·rw [if_pos e12] at hc
  split at hc <;> cases hc
 rw [if_neg e12] at hc
 have := a8l hF hp (o := o) (out := s.out) hx hf hi hg.t2 hg.tg hg.o2 (fun z => e8 (.inl z)) e9 (fun z => e8 (.inr z)) e11 e12
 cases hr : a4a F fs o x s.tb s.out with
 | inl d =>
  rw [hr] at hc this
  cases hc
  rcases this with h | h | h | h <;> (subst h; rfl)
 | inr r => rw [hr] at hc; cases hc
def endS (s : St) (st : Int) : Int ⊕ St → St
 | .inl c => { s with st := st + 1, en := 2, er := c }
 | .inr t => t
section
variable {w0 : World} {p : Mp} {fv : Value} {mn : Int} {s : St} {W : World}
theorem c2c (hF : OpF F) (hp : a2i fs main = true) (hP : b0h w0 fv fs) (ht : PTab w0) (h : Mc w0 p fv mn s W) (hg : Good fs s) (h60 : s.st < 60000) :
  Calls Tryz.prog 31 #[.pointer (some ⟨p.B, 0, none⟩)] W fun E W' => E = .returned (.tuple #[]) ∧ ∃ p', p'.B = p.B ∧ p'.ap = p.ap ∧ Mc w0 p' fv mn (a6s F fs s) W' ∧ MK p.own W p'.own W' := by
 have hmf := hmf
 obtain ⟨ini, x, hfr⟩ := hg.top
 obtain ⟨f, o, _, _, ho, _⟩ := (hg.fg x (by rw [hfr]; simp)).order hp
 have hs1 := hg.s1
 have hb1 := a0c (Below.refl W.heap.size W) (.cells #[.pointer (some ⟨p.B, 0, none⟩)] 44)
 have g1 : (W.alloc (.cells #[.pointer (some ⟨p.B, 0, none⟩)] 44)).heap[W.heap.size]? = some (.cells #[.pointer (some ⟨p.B, 0, none⟩)] 44) := a0h _ _
 obtain ⟨w1, hw1⟩ := exq (W.alloc (.cells #[.pointer (some ⟨p.B, 0, none⟩)] 44))
 rw [hw1] at hb1 g1
 have hM1 := h.more hb1 (c := W.heap.size) (Nat.le_refl _) (a0n g1)
 obtain ⟨st, hst⟩ := exq (s.st)
 have hBW : p.B < W.heap.size := h.lt _ a1d
 have hst0 : 0 ≤ st := by omega
 have hst1 : st ≤ 60000 := by omega
 -- the step is counted
 have hkX : MK p.own w1 p.own (w1.setCell ⟨p.B, 5, none⟩ (.int .i64 (st + 1))) := MK.set a1d
 have hMX := hM1.scal (s' := { s with st := st + 1 }) rfl rfl rfl (W' := w1.setCell ⟨p.B, 5, none⟩ (.int .i64 (st + 1))) hkX (fun b hb => a0f _ _ hb) (by
  have := a0k (i := 5) (.int .i64 (st + 1)) hM1.box
  refine this.trans ?_
  simp [mcb])
 have gX : (w1.setCell ⟨p.B, 5, none⟩ (.int .i64 (st + 1))).heap[W.heap.size]? = some (.cells #[.pointer (some ⟨p.B, 0, none⟩)] 44) := (a0f _ _ (by omega)).trans g1
 have c5 := hM1.cells.2.2.2.2.2.1
 have z5 := hM1.cells.2.2.2.2.2.2.2.2.2.2.2 5
 have m0 := a0a (i := 0) g1 rfl
 rw [hst] at c5
 obtain ⟨X, hX⟩ := exq (w1.setCell ⟨p.B, 5, none⟩ (.int .i64 (st + 1)))
 rw [hX] at hMX gX hkX
 have hg1 : Good fs { s with st := st + 1 } := by rw [← hst]; exact hg.tick h60
 have hnot : W.heap.size ∉ p.own := fun e => by have := h.lt _ e; omega
 obtain ⟨R, hR⟩ := exq (doR F fs o ini x { s with st := st + 1 })
 have hKX : MK p.own W p.own X := (MK.below hb1).trans hkX
 have htry : Calls Tryz.prog 51 #[.func (.func 52) #[] #[.pointer (some ⟨W.heap.size, 0, none⟩)]] X (TQ w0 { p with ap := W.heap.size :: p.ap } fv mn { s with st := st + 1 } X R) := by
  refine d0q hMX R W.heap.size (fun w2 hb2 hM2 => ?_)
  obtain ⟨l, q, e1, e2, e3, _⟩ := hM2.top (show ({ s with st := st + 1 } : St).fr = ini ++ [x] from hfr)
  have := c2a hF hp hP ht hM2 hg1 e1 (o := o) (by rw [e2]; exact ho) W.heap.size ((hb2.block _ (a0n gX)).trans gX) hnot
  rw [e3, e2, hR] at this
  exact this
 have hres : a6s F fs s = endS s st R := by
  unfold a6s
  rw [show s.fr.getLast? = some x by rw [hfr]; simp]
  simp only [ho, show s.fr.dropLast = ini by rw [hfr]; simp, hst, hR]
  cases R <;> rfl
 rw [hres]
 cases R with
 | inl c =>
  have hc0 := c6m hF hp hg1 (show ({ s with st := st + 1 } : St).fr = ini ++ [x] from hfr) ho hR
  have htry' : Calls Tryz.prog 51 #[.func (.func 52) #[] #[.pointer (some ⟨W.heap.size, 0, none⟩)]] X fun E W' => E = .returned (.int .i64 c) ∧ ∃ p', p'.B = p.B ∧ p'.ap = W.heap.size :: p.ap ∧ Mc w0 p' fv mn { s with st := st + 1 } W' ∧ MK p.own X p'.own W' := htry
  clear htry hR hres hst
  go_enter Tryz.func31, Tryz.ntmps31
  go_wp2_with (go_at_call 51; refine htry'.mono ?_; rintro E w3 ⟨rfl, p', e1, e2, hM, hK⟩; refine Hid.out ?_)
  refine Lib.hid ?_
  have g3 := (hK.box gX hnot).1
  have m3 := a0a (i := 0) g3 rfl
  obtain ⟨_, _, _, _, _, _, d6, d7, _, _, _, z⟩ := hM.cells
  have z6 := z 6
  have z7 := z 7
  rw [e1] at d6 d7 z6 z7
  clear z
  go_wp2
  go_region
  have hk3 : MK p'.own w3 p'.own ((w3.setCell ⟨p'.B, 6, none⟩ (.int .i64 2)).setCell ⟨p'.B, 7, none⟩ (.int .i64 c)).drew := ⟨(((a1n.refl _ _).set p'.B 6 _ (fun _ => a1d)).set p'.B 7 _ (fun _ => a1d)).drew, fun _ => .inl⟩
  have hx := a0k (i := 7) (.int .i64 c) (a0k (i := 6) (.int .i64 2) hM.box)
  have hM3 := hM.scal (s' := { s with st := st + 1, en := 2, er := c }) rfl rfl rfl hk3 (fun b hb => (a0f _ _ hb).trans (a0f _ _ hb)) (by refine Eq.trans hx ?_; simp [mcb])
  obtain ⟨p2, f1, f2, f3, hM4⟩ : ∃ p2 : Mp, p2.B = p.B ∧ p2.ap = p.ap ∧ p2.own = p'.own ∧ Mc w0 p2 fv mn { s with st := st + 1, en := 2, er := c } ((w3.setCell ⟨p'.B, 6, none⟩ (.int .i64 2)).setCell ⟨p'.B, 7, none⟩ (.int .i64 c)).drew := ⟨{ p' with ap := p.ap }, e1, rfl, rfl, hM3.less e2⟩
  rw [e1] at hM4 hk3
  go_end0
  exact ⟨rfl, p2, f1, f2, hM4, by rw [f3]; exact hKX.trans (hK.trans hk3)⟩
 | inr t =>
  have htry' : Calls Tryz.prog 51 #[.func (.func 52) #[] #[.pointer (some ⟨W.heap.size, 0, none⟩)]] X fun E W' => E = .returned (.int .i64 0) ∧ ∃ p', p'.B = p.B ∧ p'.ap = W.heap.size :: p.ap ∧ Mc w0 p' fv mn t W' ∧ MK p.own X p'.own W' := htry
  clear htry hR hres hst
  go_enter Tryz.func31, Tryz.ntmps31
  go_wp2_with (go_at_call 51; refine htry'.mono ?_; rintro E w3 ⟨rfl, p', e1, e2, hM, hK⟩)
  go_end0
  exact ⟨rfl, { p' with ap := p.ap }, e1, rfl, hM.less e2, hKX.trans hK⟩
end
section
variable {w0 : World} {p : Mp} {s : St} {W : World}
theorem Dc.setPC2 (h : Dc w0 p s W) (e : p.fw = l ++ [q]) (pc : Int) :
  Dc w0 { p with fw := l ++ [{ q with x := { q.x with pc := pc } }] } { s with fr := l.map Fw.x ++ [{ q.x with pc := pc }] } (W.setCell ⟨p.F, l.length * 4 + 1, none⟩ (.int .i64 pc)) ∧ ({ p with fw := l ++ [{ q with x := { q.x with pc := pc } }] } : Mp).own = p.own := by
 have a := a1f h.nd
 have hlen := h.len.1
 rw [e] at hlen
 simp at hlen
 have hown : ({ p with fw := l ++ [{ q with x := { q.x with pc := pc } }] } : Mp).own = p.own := by simp [Mp.own, e]
 have hk : MK p.own W p.own (W.setCell ⟨p.F, l.length * 4 + 1, none⟩ (.int .i64 pc)) := MK.set a2f
 have hoth : ∀ b, b ≠ p.F → (W.setCell ⟨p.F, l.length * 4 + 1, none⟩ (.int .i64 pc)).heap[b]? = W.heap[b]? := fun b hb => a0f _ _ hb
 have hl := a2q l
 refine ⟨h.re rfl (by rw [hown]; exact hk) ?_ ?_ ?_ (h.to.same (hoth _ a.ft.symm)) (h.uo.same (hoth _ a.fu.symm)) ?_ (by simp) h.ht (fun q hq => .inl hq), hown⟩
 ·exact a1f (by rw [hown]; exact h.nd)
 ·refine (hoth _ a.bf).trans ?_
  show _ = some (dcb p (l.map Fw.x ++ [{ q.x with pc := pc }]).length _ _ _ _ _ _ _ _)
  rw [h.box]
  simp [hlen]
 ·have := h.fo.set (l.length * 4 + 1) (.int .i64 pc)
  show OwnR _ p.F 50 4 (l.map Fw.x ++ [{ q.x with pc := pc }]).length p.fc (a0p (l ++ [{ q with x := { q.x with pc := pc } }]))
  rw [e, a0u, List.set_append_right _ _ (by omega), show l.length * 4 + 1 - (a0p l).length = 1 by omega] at this
  rw [a0u]
  have e2 : (l.map Fw.x ++ [{ q.x with pc := pc }]).length = s.fr.length := by simp [hlen]
  rw [e2]
  exact this
 ·intro z hz
  rcases List.mem_append.1 hz with hz | hz
  ·exact (h.rg z (by rw [e]; exact List.mem_append_left _ hz)).same (hoth _ (a.gf z (by rw [e]; exact List.mem_append_left _ hz)))
  ·simp only [List.mem_singleton] at hz
   subst hz
   exact (h.rg q (by rw [e]; simp)).same (hoth _ (a.gf q (by rw [e]; simp)))
structure CI (w : World) (D gN r : Nat) (fr : Obj) (cs : List Vl) (W : World) : Prop where
 d : W.heap[D]? = some fr
 o : OwnR W gN 30 3 r r (flat cs)
 b : Below w.heap.size w W
theorem CI.put {D gN : Nat} {fr : Obj} {cs : List Vl} (h : CI w D gN r fr cs V) (hn : D ≠ gN) (hg : w.heap.size ≤ gN) (m : Nat) (v : Vl) (V' : World) (hV : V' = ((V.setCell ⟨gN, m * 3, none⟩ (.int .i64 v.k)).setCell ⟨gN, m * 3 + 1, none⟩ (.int .i64 v.n)).setCell ⟨gN, m * 3 + 2, none⟩ (.string v.s)) : CI w D gN r fr (cs.set m v) V' := by
 subst hV
 refine ⟨(a0f _ _ hn).trans ((a0f _ _ hn).trans ((a0f _ _ hn).trans h.d)), ?_, ((h.b.setCell (p := ⟨gN, m * 3, none⟩) hg _).setCell (p := ⟨gN, m * 3 + 1, none⟩) hg _).setCell (p := ⟨gN, m * 3 + 2, none⟩) hg _⟩
 have := ((h.o.set (m * 3) (.int .i64 v.k)).set (m * 3 + 1) (.int .i64 v.n)).set (m * 3 + 2) (.string v.s)
 rw [← b1t] at this
 exact this
def fill (ag : List Vl) (r m : Nat) : List Vl := ag.take m ++ List.replicate (r - m) nilV
theorem c6n (hv : ag[m]? = some v) (hr : m < r) : (fill ag r m).set m v = fill ag r (m + 1) := by
 have hl := (List.getElem?_eq_some_iff.1 hv).1
 unfold fill
 rw [List.set_append_right _ _ (by rw [List.length_take]; omega), List.length_take, show m - min m ag.length = 0 by omega, show r - m = (r - (m + 1)) + 1 by omega, List.replicate_succ, List.set_cons_zero, a3t hv]
 simp
theorem c6o {p : Nat} (h : m = min ag.length p) : fill ag r m = a0x p r ag := by
 unfold fill a0x
 subst h
 simp only [Int.toNat_natCast, List.length_take]
 by_cases hc : ag.length ≤ p
 ·rw [show min ag.length p = ag.length by omega, List.take_of_length_le (Nat.le_refl _), List.take_of_length_le hc, show min p ag.length = ag.length by omega]
 ·rw [show min ag.length p = p by omega, show min p ag.length = p by omega]
theorem CI.a (w : World) (mc : Array Value) (r : Nat) (hms : mc.size = r * 3) (hml : mc.toList = flat (List.replicate r nilV)) (hr : r ≤ 250) (o : Obj) : CI w w.heap.size (w.heap.size + 1) r o (List.replicate r nilV) ((w.alloc o).alloc (.cells mc 30)).drew := by
 refine ⟨a0g _ (a0h w o), ⟨by rw [a1j, List.length_replicate], mc, ?_, Nat.le_refl _, by unfold maxLen; omega, hms, ?_⟩, a0i (a0c (a0c (Below.refl _ _) _) _)⟩
 ·have := a0h (w.alloc o) (.cells mc 30)
  exact (by simpa using this : ((w.alloc o).alloc (.cells mc 30)).heap[w.heap.size + 1]? = some (.cells mc 30))
 ·rw [← hml, List.take_of_length_le (by rw [Array.length_toList]; omega)]
theorem CI.b' (w : World) (mc : Array Value) (r : Nat) (hms : mc.size = r * 3) (hml : mc.toList = flat (List.replicate r nilV)) (hr : r ≤ 250) (o : Obj) : CI w (w.heap.size + 1) w.heap.size r o (List.replicate r nilV) ((w.alloc (.cells mc 30)).alloc o).drew := by
 refine ⟨?_, ⟨by rw [a1j, List.length_replicate], mc, a0g _ (a0h w _), Nat.le_refl _, by unfold maxLen; omega, hms, ?_⟩, a0i (a0c (a0c (Below.refl _ _) _) _)⟩
 ·have := a0h (w.alloc (.cells mc 30)) o
  exact (by simpa using this : ((w.alloc (.cells mc 30)).alloc o).heap[w.heap.size + 1]? = some o)
 ·rw [← hml, List.take_of_length_le (by rw [Array.length_toList]; omega)]
end
section
variable {w0 : World} {p : Mp} {s : St} {X : World}
theorem Dc.endNo (h : Dc w0 p s X) (hV : Below X.heap.size X V) (c : Int) : Dc w0 p { s with en := 2, er := c } ((V.setCell ⟨p.B, 4, none⟩ (.int .i64 2)).setCell ⟨p.B, 5, none⟩ (.int .i64 c)) := by
 have h' := h.on hV
 have hk : MK p.own V p.own ((V.setCell ⟨p.B, 4, none⟩ (.int .i64 2)).setCell ⟨p.B, 5, none⟩ (.int .i64 c)) := ⟨((a1n.refl _ _).set p.B 4 _ (fun _ => a1d)).set p.B 5 _ (fun _ => a1d), fun _ => .inl⟩
 have hx := a0k (i := 5) (.int .i64 c) (a0k (i := 4) (.int .i64 2) h'.box)
 exact h'.scal (s' := { s with en := 2, er := c }) rfl rfl rfl hk (fun b hb => (a0f _ _ hb).trans (a0f _ _ hb)) (by refine Eq.trans hx ?_; simp [dcb])
theorem Dc.endOk (h : Dc w0 p s X) (e : p.fw = l ++ [q]) (hV : Below X.heap.size X V) (a : Nat) (v : Vl) (pc : Int) : ∃ p', p'.B = p.B ∧ p'.ap = p.ap ∧ Dc w0 p' { s with fr := l.map Fw.x ++ [{ q.x with rs := q.x.rs.set a v, pc := pc }] } ((((V.setCell ⟨q.g, a * 3, none⟩ (.int .i64 v.k)).setCell ⟨q.g, a * 3 + 1, none⟩ (.int .i64 v.n)).setCell ⟨q.g, a * 3 + 2, none⟩ (.string v.s)).setCell ⟨p.F, l.length * 4 + 1, none⟩ (.int .i64 pc)) := by
 obtain ⟨p1, e1, e2, e3, e4, h1, _⟩ := (h.on hV).setReg e a v _ rfl
 obtain ⟨p2, f1, f2, _, h2, _⟩ := h1.setPC e4 pc
 rw [e3] at h2
 exact ⟨p2, f1.trans e1, f2.trans e2, h2⟩
theorem Dc.endPC (h : Dc w0 p s X) (e : p.fw = l ++ [q]) (hV : Below X.heap.size X V) (pc : Int) : ∃ p', p'.B = p.B ∧ p'.ap = p.ap ∧ Dc w0 p' { s with fr := l.map Fw.x ++ [{ q.x with pc := pc }] } (V.setCell ⟨p.F, l.length * 4 + 1, none⟩ (.int .i64 pc)) := by
 obtain ⟨p2, f1, f2, _, h2, _⟩ := (h.on hV).setPC e pc
 exact ⟨p2, f1, f2, h2⟩
theorem Dc.rga (h : Dc w0 p s X) (hq : q ∈ p.fw) {i : Nat} (hi : q.x.rs[i]? = some v) : RgA X q.g i v := by
 obtain ⟨h0, h1, h2⟩ := a2k hi
 have ho := h.rg q hq
 exact ⟨(ho.cell h0).1, (ho.cell h1).1, (ho.cell h2).1, (ho.cell h0).2, (ho.cell h1).2, (ho.cell h2).2⟩
theorem RgA.th {g a : Nat} (h : RgA W g a v) : a1m W g (a * 3) v := ⟨h.c0, h.c1, h.c2⟩
theorem Dc.moreAll (h : Dc w0 p s X) {u : World} (hb : Below X.heap.size X u) : Dc w0 { p with ap := List.range' X.heap.size (u.heap.size - X.heap.size) ++ p.ap } s u := by
 have h' := h.on hb
 have hmem : ∀ k, k ∈ List.range' X.heap.size (u.heap.size - X.heap.size) → X.heap.size ≤ k ∧ k < u.heap.size := fun k hk => by
  have := List.mem_range'_1.1 hk
  have := hb.size
  omega
 have hw : ∀ {sv : Value} {xs : List Vl}, Rw X (p.own ++ p.ap) sv xs → Rw u (p.own ++ (List.range' X.heap.size (u.heap.size - X.heap.size) ++ p.ap)) sv xs := fun {sv xs} hr => by
  obtain ⟨a, cap, e, hl, hx⟩ := hr
  refine ⟨a, cap, e, hl, fun hne => ?_⟩
  obtain ⟨b, off, ea, hn, hbl, hc⟩ := hx hne
  refine ⟨b, off, ea, fun h3 => hn ?_, Nat.lt_of_lt_of_le hbl hb.size, fun j x hj => (hc j x hj).below hb hbl⟩
  simp only [List.mem_append] at h3 ⊢
  rcases h3 with h3 | h3 | h3
  ·exact .inl h3
  ·have := (hmem b h3).1; omega
  ·exact .inr h3
 refine ⟨h'.box, h'.fo, h'.to, h'.uo, h'.rg, h'.hf, h'.ht, fun q hq => ⟨hw (h.tr q hq).1, hw (h.tr q hq).2⟩, fun k hk => ?_, h'.nd, h'.lo, h'.bl⟩
 rcases List.mem_append.1 hk with hk | hk
 ·exact ⟨(hmem k hk).2, fun e => by have := h.lt _ e; have := (hmem k hk).1; omega⟩
 ·exact h'.al k hk
def EndQ (w0 : World) (B : Nat) (A : List Nat) (t : St) (E : Ending) (W' : World) : Prop := E = .returned (.tuple #[]) ∧ ∃ p', p'.B = B ∧ (∀ k ∈ A, k ∈ p'.ap) ∧ Dc w0 p' t W'
theorem a4z {A B : List Nat} (h : B = A) : ∀ k ∈ A, k ∈ B := fun _ hk => h ▸ hk
theorem Dc.begin {mn : Int} {ca : Option Addr} {cc : Nat} (hp : a2i fs main = true) (hP : b0h w0 (.slice ca fs.length cc) fs) (h : Dc w0 p s X) (hg : Good fs s) (h60 : s.st < 60000) (e : p.fw = l ++ [q]) (ho : orderAt fs q.x = some o) :
  ∃ (f : Fd) (fb off ib ioff fn pc : Nat) (w1 Y : World), ca = some ⟨fb, off, none⟩ ∧ fs[fn]? = some f ∧ fb < w0.heap.size ∧ q.x.f = fn ∧ q.x.pc = pc ∧ SB p.B p.F p.fc l.length fb off fs.length cc mn fn pc ib ioff f.is.length f.ic q.g q.x.rs.length q.c o.op o.a o.b o.c s.st X w1 Y ∧ Dc w0 p { s with st := s.st + 1 } Y ∧ (∀ j f', fs[j]? = some f' → FAt Y fb (off + j * 4) f' ∧ FdIn w0.heap.size Y f') := by
 have hfr : s.fr = l.map Fw.x ++ [q.x] := by rw [← h.hf, e]; simp
 have hx : FG fs s.tb.length q.x := hg.fg q.x (by rw [hfr]; simp)
 obtain ⟨f, o', hf, hq, ho', hi, hk, k1, k2, k3, k4, k5, _⟩ := hx.order hp
 rw [ho] at ho'
 cases ho'
 have hq' : q ∈ p.fw := by rw [e]; simp
 have hlt := (List.getElem?_eq_some_iff.1 hf).1
 obtain ⟨a, c, ea, hR⟩ := hP.ex
 cases ea
 obtain ⟨w1, hw1⟩ := exq (X.alloc (.cells #[.slice ca fs.length cc, .int .i64 mn] 24))
 have E1 : Below X.heap.size X w1 := by rw [← hw1]; exact a0c (Below.refl _ _) _
 have g1 : w1.heap[X.heap.size]? = some (.cells #[.slice ca fs.length cc, .int .i64 mn] 24) := by rw [← hw1]; exact a0h _ _
 have h1 := h.on E1
 obtain ⟨Y, hY⟩ := exq (w1.setCell ⟨p.B, 3, none⟩ (.int .i64 (s.st + 1)))
 have hkY : MK p.own w1 p.own Y := by rw [← hY]; exact MK.set a1d
 have lB := h.lt _ a1d
 have hDY : Dc w0 p { s with st := s.st + 1 } Y := by
  refine h1.scal (s' := { s with st := s.st + 1 }) rfl rfl rfl hkY (fun b hb => by rw [← hY]; exact a0f _ _ hb) ?_
  rw [← hY]
  have := a0k (i := 3) (.int .i64 (s.st + 1)) h1.box
  refine this.trans ?_
  simp [dcb]
 have gY : Y.heap[X.heap.size]? = some (.cells #[.slice ca fs.length cc, .int .i64 mn] 24) := by rw [← hY]; exact (a0f _ _ (by omega)).trans g1
 have hR' := hR.below hDY.bl
 obtain ⟨fb, off, rfl, hfb, hel⟩ := hR'.2 (fun e => by rw [e] at hlt; simp at hlt)
 obtain ⟨fn, hfn⟩ : ∃ fn : Nat, q.x.f = fn := ⟨q.x.f.toNat, by omega⟩
 obtain ⟨pc, hpc⟩ : ∃ pc : Nat, q.x.pc = pc := ⟨q.x.pc.toNat, by omega⟩
 rw [hfn] at hf hlt
 rw [hpc] at hq k3
 simp only [Int.toNat_natCast] at hf hlt hq
 obtain ⟨b1, b2, b3⟩ := hel _ _ hf
 obtain ⟨ib, ioff, e4, hib, hes⟩ := b3.2 (fun e => by have := hk.i1; rw [e] at this; simp at this)
 have e5 := b1.i
 rw [e4] at e5
 have e6 := hes pc o hq
 obtain ⟨c0, c1, c2, c3, c4, c5, c6, c7, c8, cf⟩ := hDY.cells
 obtain ⟨t0, t1, t2, t3, t4⟩ := hDY.topCells e
 rw [hfn] at t0
 rw [hpc] at t1
 have hlen : ({ s with st := s.st + 1 } : St).fr.length = l.length + 1 := by show s.fr.length = _; rw [hfr]; simp
 rw [hlen] at c0
 have h40 := hg.n2
 have hs1 := hg.s1
 have a4 := a1f h.nd
 obtain ⟨_, _, _, d3, _, _, _, _, _, df⟩ := h1.cells
 have hi2 := hk.i2
 have hr2 := hk.r2
 have hl' : s.fr.length = l.length + 1 := hlen
 refine ⟨f, fb, off, ib, ioff, fn, pc, w1, Y, rfl, hf, hfb, hfn, hpc, ⟨hw1, hY, d3, df 3, hs1, by omega, ⟨c0, t0, t1, t3, t4, a0a gY rfl, a0a gY rfl, e5, e6.op, e6.a, e6.bb, e6.c, ⟨_, c4⟩, ⟨_, c5⟩, cf⟩, by omega, hlt, by omega, by omega, by omega, a4.gf q hq'⟩, hDY, hel⟩
end
end
end Go.Proofs.YthpgbienakcbeaaGreatDoor
