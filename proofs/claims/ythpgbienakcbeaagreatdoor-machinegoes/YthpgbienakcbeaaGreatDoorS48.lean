/- Plain orders: each one, at the machine. -/
import Derived.Test.YthpgbienakcbeaaGreatDoorS34
import Derived.Test.YthpgbienakcbeaaGreatDoorS35
import Derived.Test.YthpgbienakcbeaaGreatDoorS36
import Derived.Test.YthpgbienakcbeaaGreatDoorS37
import Derived.Test.YthpgbienakcbeaaGreatDoorS38
namespace Go.Proofs.YthpgbienakcbeaaGreatDoor
open Go.RowKit Go
set_option maxRecDepth 100000
set_option maxHeartbeats 8000000
set_option linter.all false
variable {l : List Fw} {q : Fw} {a i : Nat} {f : Fd} {o : Od}
section
variable [DecidableEq Vl]
def PlQ (w0 : World) (p : Mp) (fv : Value) (mn : Int) (s : St) (l : List Fw) (W : World) (R : Int ⊕ (Frm × List Tb × List ByteArray)) (e : Ending) (W' : World) : Prop :=
 match R with
 | .inl c => e = .panicked (pan (flr c)) ∧ Below W.heap.size W W'
 | .inr (y, tb, out) => e = .returned (.tuple #[]) ∧ ∃ p' q', p'.B = p.B ∧ p'.ap = p.ap ∧ p'.F = p.F ∧ p'.fw = l ++ [q'] ∧ q'.x = y ∧ Mc w0 p' fv mn { s with fr := l.map Fw.x ++ [y], tb := tb, out := out } W' ∧ MK p.own W p'.own W'
def plM (q : Fw) (a : Nat) (s : St) : Int ⊕ Vl → Int ⊕ (Frm × List Tb × List ByteArray)
 | .inl c => .inl c
 | .inr v => .inr ({ q.x with rs := q.x.rs.set a v }, s.tb, s.out)
section
variable {w0 : World} {p : Mp} {fv : Value} {mn : Int} {s : St} {W : World}
theorem PlQ.of_put (_h : Mc w0 p fv mn s W) (e : p.fw = l ++ [q]) {v : Vl} {V : World} {p1 : Mp} {tb : List Tb} {out : List ByteArray} (e0 : p1.B = p.B) (ea : p1.ap = p.ap) (eF : p1.F = p.F) (e1 : p1.fw = p.fw) (hM : Mc w0 p1 fv mn { s with tb := tb, out := out } V) (hK : MK p.own W p1.own V) {y : Frm} (hy : y = { q.x with rs := q.x.rs.set a v }) : PlQ w0 p fv mn s l W (.inr (y, tb, out)) (.returned (.tuple #[])) (putg V q.g a v) := by
 obtain ⟨p', x1, x2, x3, x4, x5, x6⟩ := hM.setReg (e1.trans e) a v _ rfl
 subst hy
 exact ⟨rfl, p', _, x1.trans e0, x2.trans ea, x3.trans eF, x4, rfl, x5, hK.trans x6⟩
theorem PlQ.of_PQ (h : Mc w0 p fv mn s W) (e : p.fw = l ++ [q]) {R : Int ⊕ Vl} {E : Ending} {W' : World} (hq : PQ W q.g a R E W') {R' : Int ⊕ (Frm × List Tb × List ByteArray)} (hR : R' = plM q a s R) : PlQ w0 p fv mn s l W R' E W' := by
 subst hR
 rcases hq with ⟨c, rfl, e1, e2⟩ | ⟨r, rfl, rfl, V, hb, rfl⟩
 ·exact ⟨e1, e2⟩
 ·exact PlQ.of_put (p1 := p) h e rfl rfl rfl rfl (h.on hb) (MK.below hb) rfl
theorem a5t (h : a0s f o i = true) (e : o.op = 1 ∨ o.op = 6 ∨ o.op = 30 ∨ o.op = 31) : 0 ≤ o.a ∧ o.a < f.r ∧ 0 ≤ o.b ∧ o.b < f.r := by
 rcases e with e | e | e | e <;> (simp [a0s, a1i, e, belB] at h; omega)
theorem a3y (h : a0s f o i = true) (e : o.op = 4 ∨ o.op = 5 ∨ o.op = 7 ∨ (21 ≤ o.op ∧ o.op ≤ 29)) : 0 ≤ o.a ∧ o.a < f.r ∧ 0 ≤ o.b ∧ o.b < f.r ∧ 0 ≤ o.c ∧ o.c < f.r := by
 rcases e with e | e | e | e
 ·simp [a0s, a1i, e, belB] at h; omega
 ·simp [a0s, a1i, e, belB] at h; omega
 ·simp [a0s, a1i, e, belB] at h; omega
 ·have : o.op = 21 ∨ o.op = 22 ∨ o.op = 23 ∨ o.op = 24 ∨ o.op = 25 ∨ o.op = 26 ∨ o.op = 27 ∨ o.op = 28 ∨ o.op = 29 := by omega
  rcases this with e | e | e | e | e | e | e | e | e <;> (simp [a0s, a1i, e, belB] at h; omega)
theorem a8q (h : a0s f o i = true) (e : o.op = 3 ∨ o.op = 12 ∨ o.op = 13) : 0 ≤ o.a ∧ o.a < f.r := by
 rcases e with e | e | e <;> (simp [a0s, a1i, e, belB] at h; omega)
theorem c1y (h : a0s f o i = true) (e : o.op = 2) : 0 ≤ o.a ∧ o.a < f.r ∧ 0 ≤ o.b ∧ o.b < f.cs.length := by
 simp [a0s, a1i, e, belB] at h; omega
theorem a2b {x : Frm} (hr : (x.rs.length : Int) = f.r) {i : Int} (h0 : 0 ≤ i) (h1 : i < f.r) : ∃ n : Nat, i = n ∧ n < x.rs.length ∧ x.rs[n]? = some (rgV x i) := by
 refine ⟨i.toNat, by omega, by omega, ?_⟩
 have : i.toNat < x.rs.length := by omega
 simp [rgV, this]
theorem c1z {F : Int → Vl → Vl → Vl × Int} (hF : OpF F) {fs : List Fd} {main : Int} (hp : a2i fs main = true) (hP : b0h w0 fv fs) (ht : PTab w0) (h : Mc w0 p fv mn s W) (hg : Good fs s) (e : p.fw = l ++ [q]) (ho : orderAt fs q.x = some o) (n8 : ¬ o.op = 8) (n9 : ¬ o.op = 9) (n10 : ¬ o.op = 10) (n11 : ¬ o.op = 11) (n12 : ¬ o.op = 12) :
  Calls Tryz.prog 80 #[.pointer (some ⟨p.B, 0, none⟩), .slice (some ⟨q.g, 0, none⟩) q.x.rs.length q.c, o.v] W (PlQ w0 p fv mn s l W (a4a F fs o q.x s.tb s.out)) := by
 have hq : q ∈ p.fw := by rw [e]; simp
 have hfr : s.fr = l.map Fw.x ++ [q.x] := by rw [← h.hf, e]; simp
 have hx : FG fs s.tb.length q.x := hg.fg q.x (by rw [hfr]; simp)
 obtain ⟨f, o', hf, _, ho', hi, hk, k1, k2, k3, k4, k5, _⟩ := hx.order hp
 rw [ho] at ho'
 cases ho'
 have hW := ht.on h.bl
 have rg := fun i => VG.rg hx i
 obtain ⟨_, _, _, c3, _⟩ := h.cells
 have h200 := hg.t2
 have tv : ∀ v : Vl, VG s.tb.length fs.length v → v.k = 4 → 0 ≤ v.n ∧ v.n.toNat < s.tb.length := fun v hv h4 => (TG.of hg.tg hv h4).2.2
 have td : ∀ v : Vl, VG s.tb.length fs.length v → ∃ ks vs : Value, ∀ w2, Below W.heap.size W w2 → v.k = 4 → w2.cell? ⟨p.T, v.n.toNat * 2, none⟩ = some ks ∧ w2.cell? ⟨p.T, v.n.toNat * 2 + 1, none⟩ = some vs ∧ Tab w2.heap.size w2 ks vs (a1a s.tb v).ks (a1a s.tb v).vs := fun v hv => by
  by_cases h4 : v.k = 4
  ·obtain ⟨g1, _, _, _⟩ := TG.of hg.tg hv h4
   obtain ⟨z, hz, e1, d0, d1, _, _, r0, r1⟩ := h.tabCells g1
   refine ⟨z.a, z.b, fun w2 hb _ => ⟨a0l hb d0, a0l hb d1, ⟨a1k hb.size (r0.row.below hb), a1k hb.size (r1.row.below hb)⟩⟩⟩
  ·exact ⟨.slice none 0 0, .slice none 0 0, fun _ _ e => absurd e h4⟩
 have cc3 : ∀ w2, Below W.heap.size W w2 → w2.cell? ⟨p.B, 3, none⟩ = some (.slice (some ⟨p.T, 0, none⟩) s.tb.length p.tc) := fun w2 hb => a0l hb c3
 obtain ⟨op, oa, ob, oc, w1, w2, w3, w4⟩ := o
 simp only at n8 n9 n10 n11 n12
 by_cases e1 : op = 1
 ·subst e1
  obtain ⟨a0, a1, b0, b1⟩ := a5t hi (.inl rfl)
  obtain ⟨a, rfl, la, ra⟩ := a2b k4 a0 a1
  obtain ⟨b, rfl, lb, rb⟩ := a2b k4 b0 b1
  refine (c9u _ q.g q.x.rs.length q.c a b oc _ _ W (h.reg hq ra) (h.reg hq rb) la lb).mono fun E W' hh => ?_
  obtain ⟨rfl, V, hb, rfl⟩ := hh
  exact PlQ.of_put (p1 := p) h e rfl rfl rfl rfl (h.on hb) (MK.below hb) (by simp [putR])
 by_cases e2 : op = 2
 ·subst e2
  obtain ⟨a0, a1, b0, b1⟩ := c1y hi rfl
  obtain ⟨a, rfl, la, ra⟩ := a2b k4 a0 a1
  obtain ⟨b, rfl⟩ : ∃ b : Nat, ob = b := ⟨ob.toNat, by simp only at b0; omega⟩
  simp only at b1
  have hb' : b < f.cs.length := by omega
  have hcv : f.cs[b]? = some (cstV fs q.x b) := by simp [cstV, hf, hb']
  obtain ⟨fa, fcp, rfl, hR⟩ := hP.ex
  have hlt := (List.getElem?_eq_some_iff.1 hf).1
  have hR' := hR.below h.bl
  obtain ⟨fb, off, rfl, hfb, hel⟩ := hR'.2 (fun e => by rw [e] at hlt; simp at hlt)
  obtain ⟨h1, h2, h3⟩ := hel _ _ hf
  obtain ⟨cb, coff, e4, hcb, hes⟩ := h2.2 (fun e => by rw [e] at hb'; simp at hb')
  have e5 := h1.c
  rw [e4] at e5
  obtain ⟨fn, hfn⟩ : ∃ fn : Nat, q.x.f = fn := ⟨q.x.f.toNat, by omega⟩
  obtain ⟨d0, _, _, _, _⟩ := h.topCells e
  obtain ⟨c0, _, c2, _⟩ := h.cells
  have hl : s.fr.length = l.length + 1 := by rw [hfr]; simp
  rw [hl] at c2
  rw [hfn] at d0 hlt e5
  simp only [Int.toNat_natCast] at hlt e5
  have h40 := hg.n2
  have ap := a1f h.nd
  have hlo := h.lo _ (a2t hq)
  refine (c5p p.B p.F p.fc l.length q.g q.x.rs.length q.c a b fn fs.length oc fb off fcp cb coff f.cs.length f.cc _ (cstV fs q.x b) W (h.reg hq ra) la c0 c2 (by omega) d0 hlt e5 hb' (hes b _ hcv) (ap.gb q hq).symm (ap.gf q hq).symm (fun e => by omega) (fun e => by omega)).mono fun E W' hh => ?_
  obtain ⟨rfl, V, hb, rfl⟩ := hh
  exact PlQ.of_put (p1 := p) h e rfl rfl rfl rfl (h.on hb) (MK.below hb) (by simp [putR])
 by_cases e3 : op = 3
 ·subst e3
  obtain ⟨a0, a1⟩ := a8q hi (.inl rfl)
  obtain ⟨a, rfl, la, ra⟩ := a2b k4 a0 a1
  refine (d2l h h200 e a ob oc ra).mono fun E W' hh => ?_
  have eR : a4a F fs ⟨3, a, ob, oc, w1, w2, w3, w4⟩ q.x s.tb s.out = if s.tb.length = 200 then .inl 1 else .inr (putR q.x a (tbV s.tb.length), s.tb ++ [⟨[], []⟩], s.out) := rfl
  rw [eR]
  rcases hh with ⟨h2, rfl, hb⟩ | ⟨h2, rfl, p', V, x1, x2, x3, x4, x5, x6, rfl⟩
  ·rw [if_pos h2]; exact ⟨rfl, hb⟩
  ·rw [if_neg h2]
   exact PlQ.of_put (p1 := p') h e x1 x2 x4 x3 x5 x6 (by simp [putR])
 by_cases e4 : op = 4
 ·subst e4
  obtain ⟨a0, a1, b0, b1, c0, c1⟩ := a3y hi (.inl rfl)
  obtain ⟨a, rfl, la, ra⟩ := a2b k4 a0 a1
  obtain ⟨b, rfl, lb, rb⟩ := a2b k4 b0 b1
  obtain ⟨c, rfl, lc, rc⟩ := a2b k4 c0 c1
  obtain ⟨ks, vs, hd⟩ := td _ (rg b)
  refine (d2m p.B q.g q.x.rs.length q.c a b c _ _ _ _ W (h.reg hq ra) (h.reg hq rb) (h.reg hq rc) la lb lc (fun w2 hb => c5i p.B p.T p.tc s.tb.length _ _ _ (a1a s.tb (rgV q.x b)) ks vs w2 (cc3 w2 hb) (tv _ (rg b)) (by omega) (hd w2 hb) rfl)).mono fun E W' hh => PlQ.of_PQ h e hh ?_
  have eR : a4a F fs ⟨4, a, b, c, w1, w2, w3, w4⟩ q.x s.tb s.out = if (rgV q.x b).k = 4 then .inr (putR q.x a (getT (a1a s.tb (rgV q.x b)).ks (a1a s.tb (rgV q.x b)).vs (rgV q.x c)), s.tb, s.out) else .inl 3 := rfl
  rw [eR]
  by_cases h4 : (rgV q.x b).k = 4
  ·rw [if_pos h4, if_pos h4]; simp [putR, plM]
  ·rw [if_neg h4, if_neg h4]; rfl
 by_cases e5 : op = 5
 ·subst e5
  obtain ⟨a0, a1, b0, b1, c0, c1⟩ := a3y hi (.inr (.inl rfl))
  obtain ⟨a, rfl, la, ra⟩ := a2b k4 a0 a1
  obtain ⟨b, rfl, lb, rb⟩ := a2b k4 b0 b1
  obtain ⟨c, rfl, lc, rc⟩ := a2b k4 c0 c1
  refine (d2k h hg hq a b c ra rb rc (rg a)).mono fun E W' hh => ?_
  have eR : a4a F fs ⟨5, a, b, c, w1, w2, w3, w4⟩ q.x s.tb s.out = (if (rgV q.x a).k = 4 then (if (setT (a1a s.tb (rgV q.x a)).ks (a1a s.tb (rgV q.x a)).vs (rgV q.x b) (rgV q.x c)).2 = 0 then .inr (q.x, s.tb.set (rgV q.x a).n.toNat ⟨keysOf (setT (a1a s.tb (rgV q.x a)).ks (a1a s.tb (rgV q.x a)).vs (rgV q.x b) (rgV q.x c)).1, a0q (setT (a1a s.tb (rgV q.x a)).ks (a1a s.tb (rgV q.x a)).vs (rgV q.x b) (rgV q.x c)).1⟩, s.out) else .inl (setT (a1a s.tb (rgV q.x a)).ks (a1a s.tb (rgV q.x a)).vs (rgV q.x b) (rgV q.x c)).2) else .inl 3) := rfl
  rw [eR]
  unfold SQ at hh
  split at hh
  ·rename_i h4
   rw [if_pos h4]
   split at hh
   ·rename_i h0
    rw [if_pos h0]
    obtain ⟨rfl, p', x1, x2, x3, x4, x5, x6⟩ := hh
    refine ⟨rfl, p', q, x1, x2, x4, x3.trans e, rfl, ?_, x6⟩
    rw [← hfr]; exact x5
   ·rename_i h0
    rw [if_neg h0]
    exact hh
  ·rename_i h4
   rw [if_neg h4]
   exact hh
 by_cases e6 : op = 6
 ·subst e6
  obtain ⟨a0, a1, b0, b1⟩ := a5t hi (.inr (.inl rfl))
  obtain ⟨a, rfl, la, ra⟩ := a2b k4 a0 a1
  obtain ⟨b, rfl, lb, rb⟩ := a2b k4 b0 b1
  obtain ⟨ks, vs, hd⟩ := td _ (rg b)
  refine (d2j p.B q.g q.x.rs.length q.c a b oc _ _ _ W (h.reg hq ra) (h.reg hq rb) la lb (fun w2 hb => c5o p.B p.T p.tc s.tb.length _ (a1a s.tb (rgV q.x b)) ks vs w2 (cc3 w2 hb) (rg b).m (tv _ (rg b)) (by omega) (hd w2 hb))).mono fun E W' hh => PlQ.of_PQ h e hh ?_
  have eR : a4a F fs ⟨6, a, b, oc, w1, w2, w3, w4⟩ q.x s.tb s.out = (if (rgV q.x b).k = 3 then .inr (putR q.x a (numV (rgV q.x b).s.size), s.tb, s.out) else if (rgV q.x b).k = 4 then .inr (putR q.x a (numV (lenZ (a1a s.tb (rgV q.x b)).ks (a1a s.tb (rgV q.x b)).vs)), s.tb, s.out) else .inl 3) := rfl
  rw [eR, lenR]
  by_cases h3 : (rgV q.x b).k = 3
  ·rw [if_pos h3, if_pos h3]; simp [putR, plM]
  ·rw [if_neg h3, if_neg h3]
   by_cases h4 : (rgV q.x b).k = 4
   ·rw [if_pos h4, if_pos h4]; simp [putR, plM]
   ·rw [if_neg h4, if_neg h4]; rfl
 by_cases e7 : op = 7
 ·subst e7
  obtain ⟨a0, a1, b0, b1, c0, c1⟩ := a3y hi (.inr (.inr (.inl rfl)))
  obtain ⟨a, rfl, la, ra⟩ := a2b k4 a0 a1
  obtain ⟨b, rfl, lb, rb⟩ := a2b k4 b0 b1
  obtain ⟨c, rfl, lc, rc⟩ := a2b k4 c0 c1
  obtain ⟨ks, vs, hd⟩ := td _ (rg b)
  refine (d0a p.B q.g q.x.rs.length q.c a b c _ _ _ _ W (h.reg hq ra) (h.reg hq rb) (h.reg hq rc) la lb lc (fun w2 hb => c1g p.B p.T p.tc s.tb.length _ _ (a1a s.tb (rgV q.x b)) ks vs w2 (cc3 w2 hb) (tv _ (rg b)) (by omega) (hd w2 hb))).mono fun E W' hh => PlQ.of_PQ h e hh ?_
  have eR : a4a F fs ⟨7, a, b, c, w1, w2, w3, w4⟩ q.x s.tb s.out = (if (rgV q.x b).k = 4 then (if (a3j (a1a s.tb (rgV q.x b)).ks (a1a s.tb (rgV q.x b)).vs (rgV q.x c)).2 = 0 then .inr (putR q.x a (a3j (a1a s.tb (rgV q.x b)).ks (a1a s.tb (rgV q.x b)).vs (rgV q.x c)).1, s.tb, s.out) else .inl (a3j (a1a s.tb (rgV q.x b)).ks (a1a s.tb (rgV q.x b)).vs (rgV q.x c)).2) else .inl 3) := rfl
  rw [eR, opR]
  by_cases h4 : (rgV q.x b).k = 4
  ·rw [if_pos h4, if_pos h4]
   split <;> simp [putR, plM]
  ·rw [if_neg h4, if_neg h4]; rfl
 by_cases e13 : op = 13
 ·subst e13
  obtain ⟨a0, a1⟩ := a8q hi (.inr (.inr rfl))
  obtain ⟨a, rfl, la, ra⟩ := a2b k4 a0 a1
  refine (c9z h hq a ob oc ra (by have := hg.o1; have := hg.s2; omega) hW).mono fun E W' hh => ?_
  obtain ⟨rfl, p', x1, x2, x3, x4, x5, x6⟩ := hh
  refine ⟨rfl, p', q, x1, x2, x4, x3.trans e, rfl, ?_, x6⟩
  rw [← hfr]; exact x5
 have hop : 21 ≤ op ∧ op ≤ 31 := by
  unfold a0s a1i at hi
  by_cases h30 : op = 30
  ·omega
  by_cases h31 : op = 31
  ·omega
  by_cases hr : 21 ≤ op ∧ op ≤ 29
  ·omega
  ·simp [e1, e2, e3, e4, e5, e6, e7, n8, n9, n10, n11, n12, e13, h30, h31, hr] at hi
 have opq : ∀ (k : Int) (x y : Vl) (w2 : World), Below W.heap.size W w2 → Calls Tryz.prog 104 #[.pointer (some ⟨p.B, 0, none⟩), .int .i64 k, x.v, y.v] w2 (VQ w2 (opR (F k x y))) := fun k x y w2 hb => c9s hF _ k x y w2 (hW.on hb)
 have opE : ∀ (r : Vl × Int) (a : Nat), (if r.2 = 0 then .inr (putR q.x a r.1, s.tb, s.out) else .inl r.2 : Int ⊕ (Frm × List Tb × List ByteArray)) = plM q a s (opR r) := fun r a => by
  unfold opR
  split <;> simp [putR, plM]
 by_cases e30 : op = 30
 ·subst e30
  obtain ⟨a0, a1, b0, b1⟩ := a5t hi (.inr (.inr (.inl rfl)))
  obtain ⟨a, rfl, la, ra⟩ := a2b k4 a0 a1
  obtain ⟨b, rfl, lb, rb⟩ := a2b k4 b0 b1
  exact (d2n p.B q.g q.x.rs.length q.c a b oc _ _ _ W (h.reg hq ra) (h.reg hq rb) la lb (opq 10 _ nilV)).mono fun E W' hh => PlQ.of_PQ h e hh (opE _ a)
 by_cases e31 : op = 31
 ·subst e31
  obtain ⟨a0, a1, b0, b1⟩ := a5t hi (.inr (.inr (.inr rfl)))
  obtain ⟨a, rfl, la, ra⟩ := a2b k4 a0 a1
  obtain ⟨b, rfl, lb, rb⟩ := a2b k4 b0 b1
  exact (d2o p.B q.g q.x.rs.length q.c a b oc _ _ _ W (h.reg hq ra) (h.reg hq rb) la lb (opq 11 _ nilV)).mono fun E W' hh => PlQ.of_PQ h e hh (opE _ a)
 obtain ⟨a0, a1, b0, b1, c0, c1⟩ := a3y hi (.inr (.inr (.inr ⟨hop.1, by simp only; omega⟩)))
 obtain ⟨a, rfl, la, ra⟩ := a2b k4 a0 a1
 obtain ⟨b, rfl, lb, rb⟩ := a2b k4 b0 b1
 obtain ⟨c, rfl, lc, rc⟩ := a2b k4 c0 c1
 refine (d4t p.B q.g q.x.rs.length q.c a b c op _ _ _ _ W (h.reg hq ra) (h.reg hq rb) (h.reg hq rc) la lb lc (by simpa using e1) (by simpa using e2) (by simpa using e3) (by simpa using e4) (by simpa using e5) (by simpa using e6) (by simpa using e7) (by simpa using e13) (by simpa using e30) (by simpa using e31) hop.1 (by omega) (opq (op - 20) _ _)).mono fun E W' hh => PlQ.of_PQ h e hh ?_
 rw [← opE]
 simp [a4a, e1, e2, e3, e4, e5, e6, e7, e13, e30, e31]
end
end
end Go.Proofs.YthpgbienakcbeaaGreatDoor
