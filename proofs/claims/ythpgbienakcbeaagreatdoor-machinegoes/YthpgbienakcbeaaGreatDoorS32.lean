/- A step leaves a state that may be. -/
import Derived.Test.YthpgbienakcbeaaGreatDoorS31
import Derived.Test.YthpgbienakcbeaaGreatDoorS27
namespace Go.Proofs.YthpgbienakcbeaaGreatDoor
open Go Go.RowKit
set_option maxRecDepth 100000
set_option maxHeartbeats 8000000
set_option linter.all false
variable {j n nt nf i c m g B sz cap base n₀ lo : Nat} {fs : List Fd} {main mn : Int} {f : Fd} {x : Frm} {s s' : St} {ini : List Frm} {tb : List Tb} {out : List ByteArray} {v k : Vl} {t : Tb} {xs ys : List Vl} {F : Int → Vl → Vl → Vl × Int} {o : Od} {S S' : Nat → Prop} {a b W W' A w0 V w3 : World} {O O' : List Nat} {e : TypeId} {sv fv d : Value} {tm : Array Value}
section
variable [DecidableEq Vl]
theorem a9c {α : Type} {p : Nat → α → Bool} {xs : List α} (h : allB p xs = true) {x : α} (hx : xs[j]? = some x) : p j x = true := by
 cases e : p j x
 ·rw [a2c hx e] at h; cases h
 ·rfl
structure FnOk (nf : Nat) (f : Fd) : Prop where
 p0 : 0 ≤ f.p
 p5 : f.p ≤ 5
 r1 : 1 ≤ f.r
 pr : f.p ≤ f.r
 r2 : f.r ≤ 250
 i1 : 1 ≤ f.is.length
 i2 : f.is.length ≤ 3000
 cs : ∀ (i : Nat) (c : Vl), f.cs[i]? = some c → a2g nf c = true
 is : ∀ (i : Nat) (o : Od), f.is[i]? = some o → a0s f o i = true
 la : ∀ o, f.is[f.is.length - 1]? = some o → a8k o = true
theorem a5r (h : a2i fs main = true) (hf : fs[n]? = some f) : FnOk fs.length f := by
 have h1 : allB (fun _ => fnB fs.length) fs = true := by simp only [a2i, Bool.and_eq_true] at h; exact h.2
 have h2 := a9c h1 hf
 simp only [fnB, Bool.and_eq_true, a3x, a6e] at h2
 obtain ⟨⟨⟨⟨⟨a1, a2⟩, a3⟩, a4⟩, a5⟩, a6, a7⟩ := h2
 simp only [frB, Bool.and_eq_true, decide_eq_true_eq] at a1 a2 a3 a4
 refine ⟨a1.1, a1.2, by omega, by omega, a2.2, by omega, by omega, fun i c hc => a9c a5 hc, fun i o ho => a9c a6 ho, fun o ho => ?_⟩
 rw [ho] at a7
 exact a7
theorem FG.order (hp : a2i fs main = true) (h : FG fs nt x) : ∃ f o, fs[x.f.toNat]? = some f ∧ f.is[x.pc.toNat]? = some o ∧ orderAt fs x = some o ∧ a0s f o x.pc.toNat = true ∧ FnOk fs.length f ∧ 0 ≤ x.f ∧ 0 ≤ x.pc ∧ x.pc < f.is.length ∧ (x.rs.length : Int) = f.r ∧ (∀ v ∈ x.rs, VG nt fs.length v) ∧ (¬ o.op = 8 → ¬ o.op = 10 → ¬ o.op = 12 → x.pc + 1 < f.is.length) := by
 obtain ⟨f, h1, h2, h3, h4, h5, h6⟩ := h
 have hk := a5r hp h1
 have hlt : x.pc.toNat < f.is.length := by omega
 have ho : f.is[x.pc.toNat]? = some (f.is[x.pc.toNat]) := List.getElem?_eq_getElem hlt
 refine ⟨f, _, h1, ho, by simp [orderAt, h1, ho], hk.is _ _ ho, hk, h2, h3, h4, h5, h6, fun a b c => ?_⟩
 by_cases e : x.pc + 1 < f.is.length
 ·exact e
 ·have e2 : f.is.length - 1 = x.pc.toNat := by omega
  have := hk.la _ (by rw [e2]; exact ho)
  simp [a8k] at this
  omega
theorem Good.top (h : Good fs s) : ∃ ini x, s.fr = ini ++ [x] := by
 have : s.fr ≠ [] := fun e => by have := h.n1; rw [e] at this; simp at this
 exact ⟨s.fr.dropLast, s.fr.getLast this, (List.dropLast_concat_getLast this).symm⟩
theorem Good.setTop (h : Good fs s) {y : Frm} (e : s.fr = ini ++ [x]) {st : Int} (hd : y.d = x.d) (hy : FG fs tb.length y) (ht : s.tb.length ≤ tb.length) (ht2 : tb.length ≤ 200) (htg : ∀ t ∈ tb, TG tb.length fs.length t) (hst : st = s.st + 1) (h60 : s.st < 60000) (ho : out.length ≤ s.out.length + 1) (ho2 : ∀ t ∈ out, t.size ≤ 300) (hen : s.en = 0) :
  Good fs { s with fr := ini ++ [y], tb := tb, out := out, st := st } := by
 have hs1 := h.s1
 have ho1 := h.o1
 have hdg := h.dg
 rw [e] at hdg
 rw [DG.append] at hdg
 refine ⟨by simp, ?_, ?_, ?_, ht2, htg, ?_, ?_, ?_, ho2, ?_⟩
 ·have := h.n2
  rw [e] at this
  simpa using this
 ·show DG 1 (ini ++ [y])
  rw [DG.append, hd]
  exact hdg
 ·intro z hz
  rcases List.mem_append.1 hz with hz | hz
  ·exact (h.fg z (by rw [e]; exact List.mem_append_left _ hz)).mono ht
  ·simp at hz; subst hz; exact hy
 ·show 0 ≤ st; omega
 ·show st ≤ 60000; omega
 ·show (out.length : Int) ≤ st; omega
 ·rcases h.e with h1 | h1 | h1
  ·exact .inl h1
  ·have := h1.1; omega
  ·have := h1.1; omega
theorem FG.put (h : FG fs nt x) (i : Int) (hv : VG nt fs.length v) : FG fs nt (putR x i v) := by
 obtain ⟨f, h1, h2, h3, h4, h5, h6⟩ := h
 refine ⟨f, h1, h2, h3, h4, by simpa [putR] using h5, fun u hu => ?_⟩
 rcases List.mem_or_eq_of_mem_set hu with hu | rfl
 ·exact h6 u hu
 ·exact hv
theorem FG.at (h : FG fs nt x) {pc : Int} (hf : fs[x.f.toNat]? = some f) (h0 : 0 ≤ pc) (h1 : pc < f.is.length) : FG fs nt { x with pc := pc } := by
 obtain ⟨g, e1, e2, e3, e4, e5, e6⟩ := h
 rw [hf] at e1
 cases e1
 exact ⟨f, hf, e2, h0, h1, e5, e6⟩
theorem TG.of (h : ∀ t ∈ tb, TG nt nf t) (hv : VG tb.length nf v) (hk : v.k = 4) : tb[v.n.toNat]? = some (a1a tb v) ∧ TG nt nf (a1a tb v) ∧ 0 ≤ v.n ∧ v.n.toNat < tb.length := by
 have h0 : 0 ≤ v.n := by
  have := hv.m
  rw [hk] at this
  unfold mayB at this
  rcases Bool.eq_false_or_eq_true v.s.toList.isEmpty with e | e <;> simp [e] at this
  omega
 have hlt : v.n.toNat < tb.length := by have := hv.t hk; omega
 have e : tb[v.n.toNat]? = some (a1a tb v) := by simp [a1a, hlt]
 exact ⟨e, h _ (List.mem_of_getElem? e), h0, hlt⟩
theorem VG.next (h : TG nt nf t) (h0 : (a3j t.ks t.vs k).2 = 0) : VG nt nf (a3j t.ks t.vs k).1 := by
 unfold a3j at h0 ⊢
 split at h0
 ·rename_i hc
  rw [if_pos hc]
  rcases scan_in h0 with e | e
  ·rw [e]; exact VG.nil _ _
  ·exact h.k _ e
 ·simp at h0
theorem setZ_mem {zs : List (Vl × Vl)} {p : Vl × Vl} (h : p ∈ setZ k v zs) : (p.1 = k ∨ p.1 ∈ keysOf zs) ∧ (p.2 = v ∨ p.2 ∈ a0q zs) := by
 unfold setZ at h
 rcases List.mem_append.1 h with h | h
 ·obtain ⟨h1, h2⟩ := b5k h
  refine ⟨.inr h1, ?_⟩
  rcases h2 with h2 | h2
  ·exact .inl h2.1
  ·exact .inr (List.mem_map.2 ⟨p, h2, rfl⟩)
 ·split at h
  ·simp at h
  ·have := (List.mem_filter.1 h).1
   simp at this
   subst this
   exact ⟨.inl rfl, .inl rfl⟩
theorem TG.set (h : TG nt nf t) (hk : VG nt nf k) (hv : VG nt nf v) (h0 : (setT t.ks t.vs k v).2 = 0) : TG nt nf ⟨keysOf (setT t.ks t.vs k v).1, a0q (setT t.ks t.vs k v).1⟩ := by
 have hm := h.m
 obtain ⟨hl, hl'⟩ := a2z hm
 have hz1 := a2j hl
 have hz2 := a2y hl
 unfold setT at h0 ⊢
 rw [if_neg (by simp [hm, hk.m, hv.m])] at h0 ⊢
 by_cases hk0 : k.k = 0
 ·rw [if_pos hk0] at h0; simp at h0
 rw [if_neg hk0] at h0 ⊢
 by_cases hb : 100 < (setZ k v (t.ks.zip t.vs)).length
 ·rw [if_pos hb] at h0; simp at h0
 rw [if_neg hb]
 have hF : Fine k v (t.ks.zip t.vs) := by
  simp only [mayT, Bool.and_eq_true, decide_eq_true_eq, List.all_eq_true] at hm
  refine ⟨fun p hp => hm.1.2.1 _ (List.of_mem_zip hp).1, fun p hp => hm.1.2.2 _ (List.of_mem_zip hp).2, by rw [hz1]; exact hm.2, ?_, hv.m⟩
  simp [stB, hk.m, hk0]
 refine ⟨c8v hF hb, fun u hu => ?_, fun u hu => ?_⟩
 ·obtain ⟨p, hp, rfl⟩ := List.mem_map.1 hu
  rcases (setZ_mem hp).1 with e | e
  ·rw [e]; exact hk
  ·rw [hz1] at e; exact h.k _ e
 ·obtain ⟨p, hp, rfl⟩ := List.mem_map.1 hu
  rcases (setZ_mem hp).2 with e | e
  ·rw [e]; exact hv
  ·rw [hz2] at e; exact h.v _ e
theorem setT_err (h : mayT xs ys = true) (hk : mayB k.k k.n k.s = true) (hv : mayB v.k v.n v.s = true) : (setT xs ys k v).2 = 0 ∨ (setT xs ys k v).2 = 1 ∨ (setT xs ys k v).2 = 3 := by
 unfold setT
 rw [if_neg (by simp [h, hk, hv])]
 split
 ·exact .inr (.inr rfl)
 ·split
  ·exact .inr (.inl rfl)
  ·exact .inl rfl
theorem b6a {k : Vl} : ∀ {xs : List Vl} {b : Bool}, (scan b k xs).2 = 0 ∨ (scan b k xs).2 = 4
 | [], b => by cases b <;> simp [scan]
 | x :: xs, true => .inl (by simp [scan])
 | x :: xs, false => by rw [scan]; simpa using b6a (xs := xs)
theorem nextT_err (h : mayT xs ys = true) (hk : mayB k.k k.n k.s = true) : (a3j xs ys k).2 = 0 ∨ (a3j xs ys k).2 = 4 := by
 unfold a3j
 rw [if_pos ⟨h, hk⟩]
 exact b6a
theorem VG.op (hF : OpF F) {op : Int} {x y : Vl} (h : (F op x y).2 = 0) : VG nt nf (F op x y).1 := by
 obtain ⟨h1, h2, h3⟩ := hF.m op x y h
 exact ⟨h1, fun e => absurd e h2, fun e => absurd e h3⟩
theorem VG.cst (h : a2g nf v = true) : VG nt nf v := by
 simp only [a2g, Bool.and_eq_true, Bool.not_eq_true', Bool.and_eq_false_iff, beq_eq_false_iff_ne, decide_eq_false_iff_not] at h
 refine ⟨h.1.1, fun e => absurd e h.1.2, fun e => ?_⟩
 rcases h.2 with h2 | h2
 ·exact absurd e h2
 ·omega
theorem TG.nil (nt nf : Nat) : TG nt nf ⟨[], []⟩ := ⟨by simp [mayT], by simp, by simp⟩
theorem VG.tab (h : n ≤ 1000) : VG (n + 1) nf (tbV n) := by
 unfold tbV
 rw [dif_pos h]
 exact ⟨by simp [mayB]; omega, fun _ => by simp; omega, fun h => by simp at h⟩
theorem a8l (hF : OpF F) (hp : a2i fs main = true) (hx : FG fs tb.length x) (hf : fs[x.f.toNat]? = some f) (hi : a0s f o x.pc.toNat = true) (ht : tb.length ≤ 200) (htg : ∀ t ∈ tb, TG tb.length fs.length t) (ho : ∀ t ∈ out, t.size ≤ 300) (n8 : ¬ o.op = 8) (n9 : ¬ o.op = 9) (n10 : ¬ o.op = 10) (n11 : ¬ o.op = 11) (n12 : ¬ o.op = 12) :
  match a4a F fs o x tb out with
  | .inl c => c = 1 ∨ c = 3 ∨ c = 4 ∨ c = 7
  | .inr (y, tb', out') => y.pc = x.pc ∧ y.f = x.f ∧ y.d = x.d ∧ FG fs tb'.length y ∧ tb.length ≤ tb'.length ∧ tb'.length ≤ 200 ∧ (∀ t ∈ tb', TG tb'.length fs.length t) ∧ out'.length ≤ out.length + 1 ∧ ∀ t ∈ out', t.size ≤ 300 := by
 have hk := a5r hp hf
 have rg := fun i => VG.rg hx i
 have same : ∀ {v : Vl}, VG tb.length fs.length v → (putR x o.a v).pc = x.pc ∧ (putR x o.a v).f = x.f ∧ (putR x o.a v).d = x.d ∧ FG fs tb.length (putR x o.a v) ∧ tb.length ≤ tb.length ∧ tb.length ≤ 200 ∧ (∀ t ∈ tb, TG tb.length fs.length t) ∧ out.length ≤ out.length + 1 ∧ ∀ t ∈ out, t.size ≤ 300 :=
  fun hv => ⟨rfl, rfl, rfl, hx.put _ hv, Nat.le_refl _, ht, htg, by omega, ho⟩
 unfold a4a
 by_cases e1 : o.op = 1
 ·rw [if_pos e1]; exact same (rg _)
 rw [if_neg e1]
 by_cases e2 : o.op = 2
 ·rw [if_pos e2]
  refine same ?_
  unfold cstV
  rw [hf]
  cases hc : f.cs[o.b.toNat]? with
  | none => simp [hc]; exact VG.nil _ _
  | some c => simp [hc]; exact VG.cst (hk.cs _ _ hc)
 rw [if_neg e2]
 by_cases e3 : o.op = 3
 ·rw [if_pos e3]
  by_cases hl : tb.length = 200
  ·rw [if_pos hl]; exact .inl rfl
  ·rw [if_neg hl]
   refine ⟨rfl, rfl, rfl, (hx.mono (by simp)).put _ ?_, by simp, by simp; omega, fun t hh => ?_, by omega, ho⟩
   ·rw [List.length_append]; exact VG.tab (by omega)
   ·rcases List.mem_append.1 hh with hh | hh
    ·exact (htg t hh).mono (by simp)
    ·simp at hh; subst hh; exact TG.nil _ _
 rw [if_neg e3]
 by_cases e4 : o.op = 4
 ·rw [if_pos e4]
  by_cases hk4 : (rgV x o.b).k = 4
  ·rw [if_pos hk4]; exact same (VG.get (TG.of htg (rg _) hk4).2.1 _)
  ·rw [if_neg hk4]; exact .inr (.inl rfl)
 rw [if_neg e4]
 by_cases e5 : o.op = 5
 ·rw [if_pos e5]
  by_cases hk4 : (rgV x o.a).k = 4
  ·rw [if_pos hk4]
   obtain ⟨g1, g2, g3, g4⟩ := TG.of htg (rg o.a) hk4
   by_cases h0 : (setT (a1a tb (rgV x o.a)).ks (a1a tb (rgV x o.a)).vs (rgV x o.b) (rgV x o.c)).2 = 0
   ·rw [if_pos h0]
    refine ⟨rfl, rfl, rfl, by simpa using hx, by simp, by simpa using ht, fun t hh => ?_, by omega, ho⟩
    rw [List.length_set]
    rcases List.mem_or_eq_of_mem_set hh with hh | rfl
    ·exact htg t hh
    ·exact TG.set g2 (rg _) (rg _) h0
   ·rw [if_neg h0]
    rcases setT_err g2.m (rg o.b).m (rg o.c).m with e | e | e
    ·exact absurd e h0
    ·exact .inl e
    ·exact .inr (.inl e)
  ·rw [if_neg hk4]; exact .inr (.inl rfl)
 rw [if_neg e5]
 by_cases e6 : o.op = 6
 ·rw [if_pos e6]
  by_cases hk3 : (rgV x o.b).k = 3
  ·rw [if_pos hk3]; exact same VG.num
  ·rw [if_neg hk3]
   by_cases hk4 : (rgV x o.b).k = 4
   ·rw [if_pos hk4]; exact same VG.num
   ·rw [if_neg hk4]; exact .inr (.inl rfl)
 rw [if_neg e6]
 by_cases e7 : o.op = 7
 ·rw [if_pos e7]
  by_cases hk4 : (rgV x o.b).k = 4
  ·rw [if_pos hk4]
   obtain ⟨g1, g2, g3, g4⟩ := TG.of htg (rg o.b) hk4
   by_cases h0 : (a3j (a1a tb (rgV x o.b)).ks (a1a tb (rgV x o.b)).vs (rgV x o.c)).2 = 0
   ·rw [if_pos h0]; exact same (VG.next g2 h0)
   ·rw [if_neg h0]
    rcases nextT_err g2.m (rg o.c).m with e | e
    ·exact absurd e h0
    ·exact .inr (.inr (.inl e))
  ·rw [if_neg hk4]; exact .inr (.inl rfl)
 rw [if_neg e7]
 by_cases e13 : o.op = 13
 ·rw [if_pos e13]
  refine ⟨rfl, rfl, rfl, hx, Nat.le_refl _, ht, htg, by simp, fun t hh => ?_⟩
  rcases List.mem_append.1 hh with hh | hh
  ·exact ho t hh
  ·simp at hh; subst hh; exact a9u (rg o.a).m (wf64 (rgV x o.a).wn)
 rw [if_neg e13]
 have hop : 21 ≤ o.op ∧ o.op ≤ 31 := by
  unfold a0s a1i at hi
  by_cases h30 : o.op = 30
  ·omega
  by_cases h31 : o.op = 31
  ·omega
  by_cases hr : 21 ≤ o.op ∧ o.op ≤ 29
  ·omega
  ·simp [e1, e2, e3, e4, e5, e6, e7, n8, n9, n10, n11, n12, e13, h30, h31, hr] at hi
 by_cases e30 : o.op = 30 ∨ o.op = 31
 ·rw [if_pos e30]
  by_cases h0 : (F (o.op - 20) (rgV x o.b) nilV).2 = 0
  ·rw [if_pos h0]; exact same (VG.op hF h0)
  ·rw [if_neg h0]
   rcases hF.e (o.op - 20) (rgV x o.b) nilV ⟨by omega, by omega, (rg o.b).m, (VG.nil 0 0).m⟩ with e | e | e | e
   ·exact absurd e h0
   ·exact .inl e
   ·exact .inr (.inl e)
   ·exact .inr (.inr (.inr e))
 ·rw [if_neg e30]
  by_cases h0 : (F (o.op - 20) (rgV x o.b) (rgV x o.c)).2 = 0
  ·rw [if_pos h0]; exact same (VG.op hF h0)
  ·rw [if_neg h0]
   rcases hF.e (o.op - 20) (rgV x o.b) (rgV x o.c) ⟨by omega, by omega, (rg o.b).m, (rg o.c).m⟩ with e | e | e | e
   ·exact absurd e h0
   ·exact .inl e
   ·exact .inr (.inl e)
   ·exact .inr (.inr (.inr e))
theorem b4j {p r : Int} {args : List Vl} (h0 : 0 ≤ p) (hr : p ≤ r) : ((a0x p r args).length : Int) = r := by
 simp [a0x]
 omega
theorem b4k (h : a0s f o i = true) (e : o.op = 9) : 0 ≤ o.a ∧ o.a < f.r ∧ 0 ≤ o.b ∧ o.b < f.is.length := by
 simp [a0s, a1i, e, belB] at h
 omega
theorem b4l (h : a0s f o i = true) (e : o.op = 8) : 0 ≤ o.a ∧ o.a < f.is.length := by
 simp [a0s, a1i, e, belB] at h
 omega
theorem b1r (h : a0s f o i = true) (e : o.op = 10) : 0 ≤ o.a ∧ o.a ≤ i := by
 simp [a0s, a1i, e, frB] at h
 omega
theorem b1s (h : a0s f o i = true) (e : o.op = 11) : 0 ≤ o.a ∧ o.a < f.r ∧ 0 ≤ o.b ∧ o.b < f.r ∧ 0 ≤ o.c ∧ o.c ≤ 5 ∧ 0 ≤ wrap64 (o.b + o.c) ∧ wrap64 (o.b + o.c) < f.r := by
 simp [a0s, a1i, e, belB, argB, frB] at h
 omega
theorem VG.fn (h : VG nt nf v) (hk : v.k = 5) : 0 ≤ v.n ∧ v.n.toNat < nf := by
 have h0 : 0 ≤ v.n := by
  have := h.m
  rw [hk] at this
  unfold mayB at this
  rcases Bool.eq_false_or_eq_true v.s.toList.isEmpty with e | e <;> simp [e] at this
  omega
 have := h.f hk
 omega
theorem a9v (hF : OpF F) (hp : a2i fs main = true) (h : Good fs s) (hen : s.en = 0) (h60 : s.st < 60000) : Good fs (a6s F fs s) := by
 obtain ⟨ini, x, e⟩ := h.top
 have hx := h.fg x (by rw [e]; simp)
 obtain ⟨f, o, hf, hq, ho, hi, hk, k1, k2, k3, k4, k5, k6⟩ := hx.order hp
 have hgl : s.fr.getLast? = some x := by rw [e]; simp
 have hdl : s.fr.dropLast = ini := by rw [e]; simp
 have hpl := k3
 have keep : ∀ {y : Frm}, y.d = x.d → FG fs s.tb.length y → Good fs { s with fr := ini ++ [y], st := s.st + 1 } := fun hd hy =>
  h.setTop e (tb := s.tb) (out := s.out) hd hy (Nat.le_refl _) h.t2 h.tg rfl h60 (by omega) h.o2 hen
 have fail : ∀ {c : Int}, c = 1 ∨ c = 3 ∨ c = 4 ∨ c = 7 → Good fs { s with st := s.st + 1, en := 2, er := c } := fun hc => by
  have hs1 := h.s1
  have ho1 := h.o1
  refine ⟨h.n1, h.n2, h.dg, h.fg, h.t2, h.tg, by show 0 ≤ s.st + 1; omega, by show s.st + 1 ≤ 60000; omega, by show (s.out.length : Int) ≤ s.st + 1; omega, h.o2, .inr (.inr ⟨rfl, hc, ?_⟩)⟩
  rcases h.e with h1 | h1 | h1
  ·exact h1.2.2
  ·have := h1.1; omega
  ·have := h1.1; omega
 unfold a6s
 rw [hgl]
 simp only [ho, hdl]
 unfold doR
 by_cases e8 : o.op = 8 ∨ o.op = 10
 ·rw [if_pos e8]
  refine keep rfl (hx.at hf ?_ ?_)
  ·rcases e8 with e8 | e8
   ·exact (b4l hi e8).1
   ·exact (b1r hi e8).1
  ·rcases e8 with e8 | e8
   ·exact (b4l hi e8).2
   ·have := (b1r hi e8).2; omega
 rw [if_neg e8]
 have n8 : ¬ o.op = 8 := fun q => e8 (.inl q)
 have n10 : ¬ o.op = 10 := fun q => e8 (.inr q)
 by_cases e9 : o.op = 9
 ·rw [if_pos e9]
  obtain ⟨_, _, q3, q4⟩ := b4k hi e9
  have := k6 n8 n10 (by omega)
  refine keep rfl (hx.at hf ?_ ?_)
  ·split <;> omega
  ·split <;> omega
 rw [if_neg e9]
 by_cases e11 : o.op = 11
 ·rw [if_pos e11]
  by_cases hk5 : (rgV x o.b).k = 5
  ·rw [if_pos hk5]
   by_cases h40 : ini.length + 1 = 40
   ·rw [if_pos h40]; exact fail (.inl rfl)
   ·rw [if_neg h40]
    obtain ⟨v0, v1⟩ := (VG.rg hx o.b).fn hk5
    obtain ⟨q1, q2, q3, q4, _⟩ := b1s hi e11
    have h1 := k6 n8 n10 (by omega)
    obtain ⟨g, hg⟩ : ∃ g, fs[(rgV x o.b).n.toNat]? = some g := ⟨fs[(rgV x o.b).n.toNat], by simp [v1]⟩
    have hgk := a5r hp hg
    have hb := keep (y := { x with pc := x.pc + 1 }) rfl (hx.at hf (by omega) h1)
    refine ⟨by simp, ?_, ?_, ?_, h.t2, h.tg, hb.s1, hb.s2, hb.o1, h.o2, hb.e⟩
    ·have := h.n2
     rw [e] at this
     simp at this ⊢
     omega
    ·show DG 1 (ini ++ [{ x with pc := x.pc + 1 }, _])
     have e2 : ∀ (a b : Frm), ini ++ [a, b] = (ini ++ [a]) ++ [b] := fun a b => by simp
     rw [e2, DG.append]
     refine ⟨hb.dg, q1, ?_⟩
     simp only [List.getLast?_append, List.getLast?_singleton, Option.some_or]
     show o.a < (x.rs.length : Int)
     omega
    ·intro z hz
     have e2 : ∀ (a b : Frm), ini ++ [a, b] = (ini ++ [a]) ++ [b] := fun a b => by simp
     rw [show ({ s with fr := ini ++ [{ x with pc := x.pc + 1 }, newF fs (rgV x o.b).n o.a ((x.rs.drop (o.b.toNat + 1)).take o.c.toNat)], st := s.st + 1 } : St).fr = (ini ++ [{ x with pc := x.pc + 1 }]) ++ [newF fs (rgV x o.b).n o.a ((x.rs.drop (o.b.toNat + 1)).take o.c.toNat)] from e2 _ _] at hz
     rcases List.mem_append.1 hz with hz | hz
     ·exact hb.fg z hz
     ·simp only [List.mem_singleton] at hz
      subst hz
      refine ⟨g, hg, v0, Int.le_refl _, ?_, ?_, ?_⟩
      ·show (0 : Int) < _
       have := hgk.i1; omega
      ·simp only [newF, hg]
       exact b4j hgk.p0 hgk.pr
      ·intro v hv
       simp only [newF, hg, a0x] at hv
       rcases List.mem_append.1 hv with hv | hv
       ·exact k5 v (List.mem_of_mem_drop (List.mem_of_mem_take (List.mem_of_mem_take hv)))
       ·rw [List.eq_of_mem_replicate hv]; exact VG.nil _ _
  ·rw [if_neg hk5]; exact fail (.inr (.inl rfl))
 rw [if_neg e11]
 by_cases e12 : o.op = 12
 ·rw [if_pos e12]
  have hb := keep (y := x) rfl hx
  have hdg := h.dg
  rw [e, DG.append] at hdg
  cases hl : ini.getLast? with
  | none =>
   have e0 : ini = [] := List.getLast?_eq_none_iff.1 hl
   subst e0
   simp only [List.nil_append] at e
   refine ⟨h.n1, h.n2, h.dg, h.fg, h.t2, h.tg, hb.s1, hb.s2, hb.o1, h.o2, .inr (.inl ⟨rfl, ?_, VG.rg hx _⟩)⟩
   rcases h.e with h1 | h1 | h1
   ·exact h1.2.1
   ·have := h1.1; omega
   ·have := h1.1; omega
  | some y =>
   obtain ⟨ini', rfl⟩ : ∃ l, ini = l ++ [y] := by
    have hne : ini ≠ [] := fun q => by rw [q] at hl; simp at hl
    refine ⟨ini.dropLast, ?_⟩
    rw [List.getLast?_eq_some_getLast hne] at hl
    cases hl
    exact (List.dropLast_concat_getLast hne).symm
   have hy := h.fg y (by rw [e]; simp)
   simp only [List.dropLast_concat]
   have hdg2 := hdg.1
   rw [DG.append] at hdg2
   refine ⟨by simp, ?_, ?_, ?_, h.t2, h.tg, hb.s1, hb.s2, hb.o1, h.o2, hb.e⟩
   ·have := h.n2
    rw [e] at this
    simp at this ⊢
    omega
   ·show DG 1 (ini' ++ [putR y x.d (rgV x o.a)])
    rw [DG.append]
    exact ⟨hdg2.1, hdg2.2⟩
   ·intro z hz
    rcases List.mem_append.1 hz with hz | hz
    ·exact h.fg z (by rw [e]; simp [hz])
    ·simp only [List.mem_singleton] at hz
     subst hz
     exact hy.put _ (VG.rg hx _)
 rw [if_neg e12]
 have := a8l hF hp (o := o) (out := s.out) hx hf hi h.t2 h.tg h.o2 n8 e9 n10 e11 e12
 cases hr : a4a F fs o x s.tb s.out with
 | inl c => rw [hr] at this; simp only; exact fail this
 | inr r =>
  obtain ⟨y, tb, out⟩ := r
  rw [hr] at this
  obtain ⟨a1, a2, a3, a4, a5, a6, a7, a8, a9⟩ := this
  simp only
  refine h.setTop e (y := { y with pc := y.pc + 1 }) a3 (a4.at (f := f) (by rw [a2]; exact hf) (by rw [a1]; omega) (by rw [a1]; exact k6 n8 n10 e12)) a5 a6 a7 rfl h60 a8 a9 hen
structure a1n (S : Nat → Prop) (W W' : World) : Prop where
 os : W'.os = W.os
 tape : W'.tape = W.tape
 output : W'.output = W.output
 size : W.heap.size ≤ W'.heap.size
 block : ∀ k, k < W.heap.size → ¬ S k → W'.heap[k]? = W.heap[k]?
theorem a1n.refl (S : Nat → Prop) (W : World) : a1n S W W := ⟨rfl, rfl, rfl, Nat.le_refl _, fun _ _ _ => rfl⟩
theorem a1n.trans {c : World} (h : a1n S a b) (k : a1n S b c) : a1n S a c :=
 ⟨k.os.trans h.os, k.tape.trans h.tape, k.output.trans h.output, Nat.le_trans h.size k.size, fun i hi hs => (k.block i (Nat.lt_of_lt_of_le hi h.size) hs).trans (h.block i hi hs)⟩
theorem a1n.mono (h : a1n S a b) (hs : ∀ k, k < a.heap.size → S k → S' k) : a1n S' a b := ⟨h.os, h.tape, h.output, h.size, fun k hk hn => h.block k hk fun c => hn (hs k hk c)⟩
theorem a1n.then {c : World} (h : a1n S a b) (k : a1n S' b c) (hs : ∀ j, j < a.heap.size → S' j → S j) : a1n S a c :=
 ⟨k.os.trans h.os, k.tape.trans h.tape, k.output.trans h.output, Nat.le_trans h.size k.size, fun i hi hn => (k.block i (Nat.lt_of_lt_of_le hi h.size) fun q => hn (hs i hi q)).trans (h.block i hi hn)⟩
theorem a1n.of_below (h : Below a.heap.size a b) : a1n S a b := ⟨h.os, h.tape, h.output, h.size, fun k hk _ => h.block k hk⟩
theorem a1n.grown {row : Option Nat} (h : a.grownBy b row) : a1n (fun k => some k = row) a b := ⟨h.os, h.tape, h.output, h.size, fun k hk hn => h.block k hk hn⟩
theorem a1n.drew (h : a1n S a b) : a1n S a b.drew := h.trans (a1n.of_below ((Below.refl _ _).drew))
theorem a1n.set (h : a1n S a b) (B i : Nat) (v : Value) (hB : B < a.heap.size → S B) : a1n S a (b.setCell ⟨B, i, none⟩ v) :=
 h.then (a1n.grown (Lib.grownBy_setCell b B i v)) (fun j hj e => by cases e; exact hB hj)
theorem a1n.below (h : a1n S a b) (hm : m ≤ a.heap.size) (hs : ∀ k, k < m → ¬ S k) : Below m a b := ⟨h.os, h.tape, h.output, h.size, fun k hk => h.block k (by omega) (hs k hk)⟩
theorem a1n.cell (h : a1n S a b) {o : Nat} {v : Value} (hc : a.cell? ⟨g, o, none⟩ = some v) (hs : ¬ S g) : b.cell? ⟨g, o, none⟩ = some v :=
 (World.cell?_of_block (a := ⟨g, o, none⟩) (h.block g (World.block_lt_of_cell? _ _ hc) hs)).trans hc
theorem a0n {o : Obj} (h : W.heap[B]? = some o) : B < W.heap.size := (Array.getElem?_eq_some_iff.1 h).1
structure MK (O : List Nat) (W : World) (O' : List Nat) (W' : World) : Prop where
 k : a1n (· ∈ O) W W'
 o : ∀ k ∈ O', k ∈ O ∨ W.heap.size ≤ k
theorem MK.trans {O1 O2 : List Nat} {W1 W2 : World} (h : MK O W O1 W1) (k : MK O1 W1 O2 W2) : MK O W O2 W2 := by
 refine ⟨h.k.then k.k (fun j hj h1 => ?_), fun j hj => ?_⟩
 ·rcases h.o j h1 with h2 | h2
  ·exact h2
  ·omega
 ·rcases k.o j hj with h2 | h2
  ·exact h.o j h2
  ·exact .inr (Nat.le_trans h.k.size h2)
theorem MK.below (hb : Below W.heap.size W W') : MK O W O W' := ⟨a1n.of_below hb, fun _ h => .inl h⟩
theorem MK.refl (O : List Nat) (W : World) : MK O W O W := ⟨a1n.refl _ _, fun _ h => .inl h⟩
theorem MK.box (h : MK O W O' W') {t : Nat} {o : Obj} (g : W.heap[t]? = some o) (hn : t ∉ O) : W'.heap[t]? = some o ∧ t ∉ O' := by
 refine ⟨(h.k.block t (a0n g) hn).trans g, fun h1 => ?_⟩
 rcases h.o t h1 with h2 | h2
 ·exact hn h2
 ·have := a0n g
  omega
def OwnR (W : World) (g : Nat) (e : TypeId) (sz n cap : Nat) (xs : List Value) : Prop :=
 xs.length = n * sz ∧ ∃ cur, W.heap[g]? = some (.cells cur e (0, 0)) ∧ n ≤ cap ∧ cap ≤ maxLen ∧ cur.size = cap * sz ∧ cur.toList.take (n * sz) = xs
theorem OwnR.owns {xs : List Value} (h : OwnR W g e sz n cap xs) (hb : base ≤ g) : W.ownsRow base e sz (.slice (some ⟨g, 0, none⟩) n cap) n xs := by
 obtain ⟨h1, cur, h2, h3, h4, h5, h6⟩ := h
 exact ⟨h1, .inr ⟨g, cap, cur, rfl, hb, h2, h3, h4, h5, h6⟩⟩
theorem OwnR.of {xs : List Value} (h : W.ownsRow base e sz (.slice (some ⟨g, 0, none⟩) n cap) n xs) : OwnR W g e sz n cap xs ∧ base ≤ g := by
 obtain ⟨h1, h2⟩ := h
 rcases h2 with ⟨e, _⟩ | ⟨g', cap', cur, e, hb, h2, h3, h4, h5, h6⟩
 ·cases e
 ·cases e; exact ⟨⟨h1, cur, h2, h3, h4, h5, h6⟩, hb⟩
theorem OwnR.same {xs : List Value} (h : OwnR W g e sz n cap xs) (hs : W'.heap[g]? = W.heap[g]?) : OwnR W' g e sz n cap xs := by
 obtain ⟨h1, cur, h2, hr⟩ := h
 exact ⟨h1, cur, hs.trans h2, hr⟩
theorem OwnR.lt {xs : List Value} (h : OwnR W g e sz n cap xs) : g < W.heap.size := by
 obtain ⟨h1, cur, h2, hr⟩ := h
 exact a0n h2
theorem OwnR.cell {xs : List Value} (h : OwnR W g e sz n cap xs) {v : Value} (hv : xs[j]? = some v) : W.cell? ⟨g, j, none⟩ = some v ∧ W.frozen? ⟨g, j, none⟩ = false := by
 obtain ⟨h1, cur, h2, h3, h4, h5, h6⟩ := h
 have hj := (List.getElem?_eq_some_iff.1 hv).1
 rw [← h6, List.getElem?_take_of_lt (by omega)] at hv
 have hc : cur[j]? = some v := by simpa using hv
 exact ⟨a0a h2 hc, a0e h2⟩
theorem OwnR.set {xs : List Value} (h : OwnR W g e sz n cap xs) (j : Nat) (v : Value) : OwnR (W.setCell ⟨g, j, none⟩ v) g e sz n cap (xs.set j v) := by
 obtain ⟨h1, cur, h2, h3, h4, h5, h6⟩ := h
 refine ⟨by simpa using h1, _, a0k v h2, h3, h4, by simpa using h5, ?_⟩
 rw [Array.toList_setIfInBounds, List.take_set, h6]
theorem OwnR.less {xs : List Value} (h : OwnR W g e sz n cap xs) (hm : m ≤ n) : OwnR W g e sz m cap (xs.take (m * sz)) := by
 obtain ⟨h1, cur, h2, h3, h4, h5, h6⟩ := h
 have hmn : m * sz ≤ n * sz := Nat.mul_le_mul_right _ hm
 refine ⟨by rw [List.length_take]; omega, cur, h2, by omega, h4, h5, ?_⟩
 rw [← h6, List.take_take, Nat.min_eq_left hmn]
def Rw (W : World) (O : List Nat) (sv : Value) (xs : List Vl) : Prop :=
 ∃ (a : Option Addr) (cap : Nat), sv = .slice a xs.length cap ∧ xs.length ≤ maxLen ∧
  (xs ≠ [] → ∃ b off, a = some ⟨b, off, none⟩ ∧ b ∉ O ∧ b < W.heap.size ∧ ∀ j x, xs[j]? = some x → a1m W b (off + j * 3) x)
theorem Rw.row (h : Rw W O sv xs) : Row W.heap.size W sv xs := by
 obtain ⟨a, cap, e, hl, hx⟩ := h
 refine ⟨a, cap, e, hl, fun hne => ?_⟩
 obtain ⟨b, off, ea, _, hb, hc⟩ := hx hne
 exact ⟨b, off, ea, hb, hc⟩
theorem Rw.keep (h : Rw W O sv xs) (k : MK O W O' W') : Rw W' O' sv xs := by
 obtain ⟨a, cap, e, hl, hx⟩ := h
 refine ⟨a, cap, e, hl, fun hne => ?_⟩
 obtain ⟨b, off, ea, hn, hb, hc⟩ := hx hne
 refine ⟨b, off, ea, fun h1 => ?_, Nat.lt_of_lt_of_le hb k.k.size, fun j x hj => ?_⟩
 ·rcases k.o b h1 with h2 | h2
  ·exact hn h2
  ·omega
 ·obtain ⟨t1, t2, t3⟩ := hc j x hj
  exact ⟨k.k.cell t1 hn, k.k.cell t2 hn, k.k.cell t3 hn⟩
theorem Rw.keepA {A : List Nat} (h : Rw W (O ++ A) sv xs) (k : MK O W O' W') : Rw W' (O' ++ A) sv xs := by
 obtain ⟨a, cap, e, hl, hx⟩ := h
 refine ⟨a, cap, e, hl, fun hne => ?_⟩
 obtain ⟨b, off, ea, hn, hb, hc⟩ := hx hne
 simp only [List.mem_append, not_or] at hn
 refine ⟨b, off, ea, fun h1 => ?_, Nat.lt_of_lt_of_le hb k.k.size, fun j x hj => ?_⟩
 ·rcases List.mem_append.1 h1 with h1 | h1
  ·rcases k.o b h1 with h2 | h2
   ·exact hn.1 h2
   ·omega
  ·exact hn.2 h1
 ·obtain ⟨t1, t2, t3⟩ := hc j x hj
  exact ⟨k.k.cell t1 hn.1, k.k.cell t2 hn.1, k.k.cell t3 hn.1⟩
structure Fw where
 x : Frm
 g : Nat
 c : Nat
structure Tw where
 t : Tb
 a : Value
 b : Value
abbrev Fw.cells (q : Fw) : List Value := [.int .i64 q.x.f, .int .i64 q.x.pc, .int .i64 q.x.d, .slice (some ⟨q.g, 0, none⟩) q.x.rs.length q.c]
def a0p (l : List Fw) : List Value := l.flatMap Fw.cells
def a0m (l : List Tw) : List Value := l.flatMap fun q => [q.a, q.b]
structure Mp where
 B : Nat
 F : Nat
 fc : Nat
 T : Nat
 tc : Nat
 U : Nat
 uc : Nat
 fw : List Fw
 tw : List Tw
 ap : List Nat
def Mp.own (p : Mp) : List Nat := p.B :: p.F :: p.T :: p.U :: p.fw.map Fw.g
abbrev mcb (fv : Value) (mn : Int) (p : Mp) (nf nt nu : Nat) (st en er k n : Int) (t : ByteArray) : Obj :=
 .cells #[fv, .int .i64 mn, .slice (some ⟨p.F, 0, none⟩) nf p.fc, .slice (some ⟨p.T, 0, none⟩) nt p.tc, .slice (some ⟨p.U, 0, none⟩) nu p.uc, .int .i64 st, .int .i64 en, .int .i64 er, .int .i64 k, .int .i64 n, .string t] 46
structure Mc (w0 : World) (p : Mp) (fv : Value) (mn : Int) (s : St) (W : World) : Prop where
 box : W.heap[p.B]? = some (mcb fv mn p s.fr.length s.tb.length s.out.length s.st s.en s.er s.la.k s.la.n s.la.s)
 fo : OwnR W p.F 50 4 s.fr.length p.fc (a0p p.fw)
 to : OwnR W p.T 57 2 s.tb.length p.tc (a0m p.tw)
 uo : OwnR W p.U 9 1 s.out.length p.uc (s.out.map Value.string)
 rg : ∀ q ∈ p.fw, OwnR W q.g 30 3 q.x.rs.length q.c (flat q.x.rs)
 hf : p.fw.map Fw.x = s.fr
 ht : p.tw.map Tw.t = s.tb
 tr : ∀ q ∈ p.tw, Rw W (p.own ++ p.ap) q.a q.t.ks ∧ Rw W (p.own ++ p.ap) q.b q.t.vs
 al : ∀ k ∈ p.ap, k < W.heap.size ∧ k ∉ p.own
 nd : p.own.Nodup
 lo : ∀ k ∈ p.own, w0.heap.size ≤ k
 bl : Below w0.heap.size w0 W
theorem b0u (hb : Below w0.heap.size w0 V) (hk : a1n (· ∈ O) V W') (hO : ∀ k ∈ O, w0.heap.size ≤ k) : Below w0.heap.size w0 W' :=
 ⟨hk.os.trans hb.os, hk.tape.trans hb.tape, hk.output.trans hb.output, Nat.le_trans hb.size hk.size, fun k hk' => (hk.block k (Nat.lt_of_lt_of_le hk' hb.size) (fun h => by have := hO k h; omega)).trans (hb.block k hk')⟩
theorem Mc.lt {p : Mp} (h : Mc w0 p fv mn s W) : ∀ k ∈ p.own, k < W.heap.size := by
 intro k hk
 simp only [Mp.own, List.mem_cons, List.mem_map] at hk
 rcases hk with rfl | rfl | rfl | rfl | ⟨q, hq, rfl⟩
 ·exact a0n h.box
 ·exact h.fo.lt
 ·exact h.to.lt
 ·exact h.uo.lt
 ·exact (h.rg q hq).lt
theorem Mc.on {p : Mp} (h : Mc w0 p fv mn s W) (hb : Below W.heap.size W W') : Mc w0 p fv mn s W' := by
 have hl := h.lt
 refine ⟨a0d hb h.box, h.fo.same (hb.block _ (hl _ (by simp [Mp.own]))), h.to.same (hb.block _ (hl _ (by simp [Mp.own]))), h.uo.same (hb.block _ (hl _ (by simp [Mp.own]))), fun q hq => (h.rg q hq).same (hb.block _ (h.rg q hq).lt), h.hf, h.ht, fun q hq => ⟨(h.tr q hq).1.keepA (MK.below hb), (h.tr q hq).2.keepA (MK.below hb)⟩, fun k hk => ⟨Nat.lt_of_lt_of_le (h.al k hk).1 hb.size, (h.al k hk).2⟩, h.nd, h.lo, a0b h.bl hb⟩
theorem Mc.more {p : Mp} (h : Mc w0 p fv mn s W) (hb : Below W.heap.size W W') (h1 : W.heap.size ≤ c) (h2 : c < W'.heap.size) : Mc w0 { p with ap := c :: p.ap } fv mn s W' := by
 have h' := h.on hb
 have hw : ∀ {sv : Value} {xs : List Vl}, Rw W (p.own ++ p.ap) sv xs → Rw W' (p.own ++ c :: p.ap) sv xs := fun {sv xs} hr => by
  obtain ⟨a, cap, e, hl, hx⟩ := hr
  refine ⟨a, cap, e, hl, fun hne => ?_⟩
  obtain ⟨b, off, ea, hn, hbl, hc⟩ := hx hne
  refine ⟨b, off, ea, fun h3 => hn ?_, Nat.lt_of_lt_of_le hbl hb.size, fun j x hj => (hc j x hj).below hb hbl⟩
  simp only [List.mem_append, List.mem_cons] at h3 ⊢
  rcases h3 with h3 | h3 | h3
  ·exact .inl h3
  ·omega
  ·exact .inr h3
 refine ⟨h'.box, h'.fo, h'.to, h'.uo, h'.rg, h'.hf, h'.ht, fun q hq => ⟨hw (h.tr q hq).1, hw (h.tr q hq).2⟩, fun k hk => ?_, h'.nd, h'.lo, h'.bl⟩
 rcases List.mem_cons.1 hk with rfl | hk
 ·exact ⟨h2, fun e => by have := h.lt _ e; omega⟩
 ·exact h'.al k hk
theorem Mc.less {p : Mp} {A : List Nat} (h : Mc w0 p fv mn s W) (e : p.ap = c :: A) : Mc w0 { p with ap := A } fv mn s W := by
 have hw : ∀ {sv : Value} {xs : List Vl}, Rw W (p.own ++ p.ap) sv xs → Rw W (p.own ++ A) sv xs := fun {sv xs} hr => by
  obtain ⟨a, cap, e', hl, hx⟩ := hr
  refine ⟨a, cap, e', hl, fun hne => ?_⟩
  obtain ⟨b, off, ea, hn, hbl, hc⟩ := hx hne
  refine ⟨b, off, ea, fun h3 => hn ?_, hbl, hc⟩
  rw [e]
  simp only [List.mem_append, List.mem_cons] at h3 ⊢
  rcases h3 with h3 | h3
  ·exact .inl h3
  ·exact .inr (.inr h3)
 exact ⟨h.box, h.fo, h.to, h.uo, h.rg, h.hf, h.ht, fun q hq => ⟨hw (h.tr q hq).1, hw (h.tr q hq).2⟩, fun k hk => h.al k (by rw [e]; exact List.mem_cons_of_mem _ hk), h.nd, h.lo, h.bl⟩
theorem Mc.wrote {p : Mp} (h : Mc w0 p fv mn s W) (hc : c ∈ p.ap) (hw0 : w0.heap.size ≤ c) (hk : a1n (· = c) W W') : Mc w0 p fv mn s W' := by
 have hn := (h.al c hc).2
 have hs : ∀ b ∈ p.own, W'.heap[b]? = W.heap[b]? := fun b hb => hk.block b (h.lt b hb) (fun e => hn (e ▸ hb))
 have hw : ∀ {sv : Value} {xs : List Vl}, Rw W (p.own ++ p.ap) sv xs → Rw W' (p.own ++ p.ap) sv xs := fun {sv xs} hr => by
  obtain ⟨a, cap, e', hl, hx⟩ := hr
  refine ⟨a, cap, e', hl, fun hne => ?_⟩
  obtain ⟨b, off, ea, hn', hbl, hcc⟩ := hx hne
  have hbc : ¬ b = c := fun e => hn' (by rw [e]; exact List.mem_append_right _ hc)
  refine ⟨b, off, ea, hn', Nat.lt_of_lt_of_le hbl hk.size, fun j x hj => ?_⟩
  obtain ⟨t1, t2, t3⟩ := hcc j x hj
  exact ⟨hk.cell t1 hbc, hk.cell t2 hbc, hk.cell t3 hbc⟩
 refine ⟨(hs _ (by simp [Mp.own])).trans h.box, h.fo.same (hs _ (by simp [Mp.own])), h.to.same (hs _ (by simp [Mp.own])), h.uo.same (hs _ (by simp [Mp.own])), fun q hq => (h.rg q hq).same (hs _ ?_), h.hf, h.ht, fun q hq => ⟨hw (h.tr q hq).1, hw (h.tr q hq).2⟩, fun k hk' => ⟨Nat.lt_of_lt_of_le (h.al k hk').1 hk.size, (h.al k hk').2⟩, h.nd, h.lo, ?_⟩
 ·simp only [Mp.own, List.mem_cons, List.mem_map]
  exact .inr (.inr (.inr (.inr ⟨q, hq, rfl⟩)))
 ·exact ⟨hk.os.trans h.bl.os, hk.tape.trans h.bl.tape, hk.output.trans h.bl.output, Nat.le_trans h.bl.size hk.size, fun k hk' => (hk.block k (Nat.lt_of_lt_of_le hk' h.bl.size) (fun e => by omega)).trans (h.bl.block k hk')⟩
theorem MK.set {v : Value} (hg : g ∈ O) : MK O W O (W.setCell ⟨g, i, none⟩ v) := ⟨(a1n.refl _ _).set g i v (fun _ => hg), fun _ h => .inl h⟩
section
variable {w0 : World} {p : Mp} {fv : Value} {mn : Int} {s : St} {W : World}
structure b6b (p : Mp) : Prop where
 bf : p.B ≠ p.F
 bt : p.B ≠ p.T
 bu : p.B ≠ p.U
 ft : p.F ≠ p.T
 fu : p.F ≠ p.U
 tu : p.T ≠ p.U
 gb : ∀ q ∈ p.fw, q.g ≠ p.B
 gf : ∀ q ∈ p.fw, q.g ≠ p.F
 gt : ∀ q ∈ p.fw, q.g ≠ p.T
 gu : ∀ q ∈ p.fw, q.g ≠ p.U
 gg : (p.fw.map Fw.g).Nodup
theorem a1f (h : p.own.Nodup) : b6b p := by
 simp only [Mp.own, List.nodup_cons, List.mem_cons, not_or, List.mem_map, not_exists, not_and] at h
 obtain ⟨⟨h1, h2, h3, h4⟩, ⟨h5, h6, h7⟩, ⟨h8, h9⟩, h10, h11⟩ := h
 exact ⟨h1, h2, h3, h5, h6, h8, fun q hq e => h4 q hq e, fun q hq e => h7 q hq e, fun q hq e => h9 q hq e, fun q hq e => h10 q hq e, h11⟩
theorem b6c (h : b6b p) : p.own.Nodup := by
 simp only [Mp.own, List.nodup_cons, List.mem_cons, not_or, List.mem_map, not_exists, not_and]
 exact ⟨⟨h.bf, h.bt, h.bu, fun q hq e => h.gb q hq e⟩, ⟨h.ft, h.fu, fun q hq e => h.gf q hq e⟩, ⟨h.tu, fun q hq e => h.gt q hq e⟩, fun q hq e => h.gu q hq e, h.gg⟩
theorem a1d : p.B ∈ p.own := by simp [Mp.own]
theorem a2f : p.F ∈ p.own := by simp [Mp.own]
theorem a4d : p.T ∈ p.own := by simp [Mp.own]
theorem a4v : p.U ∈ p.own := by simp [Mp.own]
theorem a2t {q : Fw} (h : q ∈ p.fw) : q.g ∈ p.own := by
 simp only [Mp.own, List.mem_cons, List.mem_map]
 exact .inr (.inr (.inr (.inr ⟨q, h, rfl⟩)))
theorem Mc.re (h : Mc w0 p fv mn s W) {p' : Mp} (hap : p'.ap = p.ap) (hk : MK p.own W p'.own W') (nd : b6b p') (box : W'.heap[p'.B]? = some (mcb fv mn p' s'.fr.length s'.tb.length s'.out.length s'.st s'.en s'.er s'.la.k s'.la.n s'.la.s)) (fo : OwnR W' p'.F 50 4 s'.fr.length p'.fc (a0p p'.fw)) (to : OwnR W' p'.T 57 2 s'.tb.length p'.tc (a0m p'.tw)) (uo : OwnR W' p'.U 9 1 s'.out.length p'.uc (s'.out.map Value.string)) (rg : ∀ q ∈ p'.fw, OwnR W' q.g 30 3 q.x.rs.length q.c (flat q.x.rs)) (hf : p'.fw.map Fw.x = s'.fr) (ht : p'.tw.map Tw.t = s'.tb) (tr : ∀ q ∈ p'.tw, q ∈ p.tw ∨ (Rw W' (p'.own ++ p.ap) q.a q.t.ks ∧ Rw W' (p'.own ++ p.ap) q.b q.t.vs)) : Mc w0 p' fv mn s' W' := by
 refine ⟨box, fo, to, uo, rg, hf, ht, fun q hq => ?_, fun k hk' => ?_, b6c nd, fun k hk' => ?_, b0u h.bl hk.k h.lo⟩
 ·rw [hap]
  rcases tr q hq with h1 | h1
  ·exact ⟨(h.tr q h1).1.keepA hk, (h.tr q h1).2.keepA hk⟩
  ·exact h1
 ·rw [hap] at hk'
  refine ⟨Nat.lt_of_lt_of_le (h.al k hk').1 hk.k.size, fun e => ?_⟩
  rcases hk.o k e with h1 | h1
  ·exact (h.al k hk').2 h1
  ·have := (h.al k hk').1; omega
 ·rcases hk.o k hk' with h1 | h1
  ·exact h.lo k h1
  ·exact Nat.le_trans h.bl.size h1
theorem Mc.scal (h : Mc w0 p fv mn s W) (e1 : s'.fr = s.fr) (e2 : s'.tb = s.tb) (e3 : s'.out = s.out) (hk : MK p.own W p.own W') (hoth : ∀ b, b ≠ p.B → W'.heap[b]? = W.heap[b]?) (box : W'.heap[p.B]? = some (mcb fv mn p s.fr.length s.tb.length s.out.length s'.st s'.en s'.er s'.la.k s'.la.n s'.la.s)) : Mc w0 p fv mn s' W' := by
 have a := a1f h.nd
 refine h.re rfl hk a (by rw [e1, e2, e3]; exact box) (by rw [e1]; exact h.fo.same (hoth _ a.bf.symm)) (by rw [e2]; exact h.to.same (hoth _ a.bt.symm)) (by rw [e3]; exact h.uo.same (hoth _ a.bu.symm)) (fun q hq => (h.rg q hq).same (hoth _ (a.gb q hq))) (by rw [e1]; exact h.hf) (by rw [e2]; exact h.ht) (fun q hq => .inl hq)
theorem a0u (l m : List Fw) : a0p (l ++ m) = a0p l ++ a0p m := by simp [a0p]
theorem a2q (l : List Fw) : (a0p l).length = l.length * 4 := by
 induction l with
 | nil => rfl
 | cons x xs ih => simp [a0p] at ih ⊢; omega
theorem a5c (l m : List Tw) : a0m (l ++ m) = a0m l ++ a0m m := by simp [a0m]
theorem a3o (l : List Tw) : (a0m l).length = l.length * 2 := by
 induction l with
 | nil => rfl
 | cons x xs ih => simp [a0m] at ih ⊢; omega
theorem Mc.len (h : Mc w0 p fv mn s W) : p.fw.length = s.fr.length ∧ p.tw.length = s.tb.length := by
 rw [← h.hf, ← h.ht]; simp
theorem Mc.top (h : Mc w0 p fv mn s W) (e : s.fr = ini ++ [x]) : ∃ l q, p.fw = l ++ [q] ∧ q.x = x ∧ l.map Fw.x = ini ∧ l.length = ini.length := by
 have hf := h.hf
 rw [e] at hf
 obtain ⟨l, m, h1, h2, h3⟩ := List.map_eq_append_iff.1 hf
 obtain ⟨q, rfl, h4⟩ : ∃ q, m = [q] ∧ q.x = x := by
  cases m with
  | nil => simp at h3
  | cons q m =>
   simp at h3
   exact ⟨q, by rw [h3.2], h3.1⟩
 exact ⟨l, q, h1, h4, h2, by rw [← h2]; simp⟩
theorem Mc.topCells (h : Mc w0 p fv mn s W) {l : List Fw} {q : Fw} (e : p.fw = l ++ [q]) :
  W.cell? ⟨p.F, l.length * 4, none⟩ = some (.int .i64 q.x.f) ∧ W.cell? ⟨p.F, l.length * 4 + 1, none⟩ = some (.int .i64 q.x.pc) ∧ W.cell? ⟨p.F, l.length * 4 + 2, none⟩ = some (.int .i64 q.x.d) ∧ W.cell? ⟨p.F, l.length * 4 + 3, none⟩ = some (.slice (some ⟨q.g, 0, none⟩) q.x.rs.length q.c) ∧ W.frozen? ⟨p.F, l.length * 4 + 1, none⟩ = false := by
 have hl := a2q l
 have hx : ∀ j v, q.cells[j]? = some v → (a0p p.fw)[l.length * 4 + j]? = some v := fun j v hv => by
  rw [e, a0u, List.getElem?_append_right (by omega)]
  simp only [a0p, List.flatMap_cons, List.flatMap_nil, List.append_nil]
  rw [show l.length * 4 + j - (l.flatMap Fw.cells).length = j by have : (l.flatMap Fw.cells).length = l.length * 4 := hl; omega]
  exact hv
 exact ⟨(h.fo.cell (hx 0 _ rfl)).1, (h.fo.cell (hx 1 _ rfl)).1, (h.fo.cell (hx 2 _ rfl)).1, (h.fo.cell (hx 3 _ rfl)).1, (h.fo.cell (hx 1 _ rfl)).2⟩
theorem b1t (xs : List Vl) (i : Nat) (v : Vl) : flat (xs.set i v) = (((flat xs).set (i * 3) (.int .i64 v.k)).set (i * 3 + 1) (.int .i64 v.n)).set (i * 3 + 2) (.string v.s) := by
 induction xs generalizing i with
 | nil => simp [flat]
 | cons x xs ih =>
  cases i with
  | zero => simp [flat]
  | succ i =>
   have e : ∀ y : Vl, flat (y :: xs) = .int .i64 y.k :: .int .i64 y.n :: .string y.s :: flat xs := fun y => by simp [flat]
   have e' : ∀ (y : Vl) (zs : List Vl), flat (y :: zs) = .int .i64 y.k :: .int .i64 y.n :: .string y.s :: flat zs := fun y zs => by simp [flat]
   rw [List.set_cons_succ, e', ih, e, show (i + 1) * 3 = i * 3 + 1 + 1 + 1 by omega]
   simp only [List.set_cons_succ]
theorem Mc.setReg (h : Mc w0 p fv mn s W) {l : List Fw} {q : Fw} (e : p.fw = l ++ [q]) (i : Nat) (v : Vl) (W' : World) (hW : W' = ((W.setCell ⟨q.g, i * 3, none⟩ (.int .i64 v.k)).setCell ⟨q.g, i * 3 + 1, none⟩ (.int .i64 v.n)).setCell ⟨q.g, i * 3 + 2, none⟩ (.string v.s)) :
  ∃ p', p'.B = p.B ∧ p'.ap = p.ap ∧ p'.F = p.F ∧ p'.fw = l ++ [{ q with x := { q.x with rs := q.x.rs.set i v } }] ∧ Mc w0 p' fv mn { s with fr := l.map Fw.x ++ [{ q.x with rs := q.x.rs.set i v }] } W' ∧ MK p.own W p'.own W' := by
 subst hW
 have a := a1f h.nd
 have hq : q ∈ p.fw := by rw [e]; simp
 have hlen := h.len.1
 rw [e] at hlen
 simp at hlen
 have hown : ({ p with fw := l ++ [{ q with x := { q.x with rs := q.x.rs.set i v } }] } : Mp).own = p.own := by simp [Mp.own, e]
 have hk : MK p.own W p.own (((W.setCell ⟨q.g, i * 3, none⟩ (.int .i64 v.k)).setCell ⟨q.g, i * 3 + 1, none⟩ (.int .i64 v.n)).setCell ⟨q.g, i * 3 + 2, none⟩ (.string v.s)) := ((MK.set (a2t hq)).trans (MK.set (a2t hq))).trans (MK.set (a2t hq))
 have hoth : ∀ b, b ≠ q.g → (((W.setCell ⟨q.g, i * 3, none⟩ (.int .i64 v.k)).setCell ⟨q.g, i * 3 + 1, none⟩ (.int .i64 v.n)).setCell ⟨q.g, i * 3 + 2, none⟩ (.string v.s)).heap[b]? = W.heap[b]? := fun b hb => (a0f _ _ hb).trans ((a0f _ _ hb).trans (a0f _ _ hb))
 refine ⟨{ p with fw := l ++ [{ q with x := { q.x with rs := q.x.rs.set i v } }] }, rfl, rfl, rfl, rfl, h.re rfl (by rw [hown]; exact hk) ?_ ?_ ?_ (h.to.same (hoth _ (a.gt q hq).symm)) (h.uo.same (hoth _ (a.gu q hq).symm)) ?_ (by simp) h.ht (fun q hq => .inl hq), by rw [hown]; exact hk⟩
 ·exact a1f (by rw [hown]; exact h.nd)
 ·refine (hoth _ (a.gb q hq).symm).trans ?_
  show _ = some (mcb fv mn p (l.map Fw.x ++ [{ q.x with rs := q.x.rs.set i v }]).length _ _ _ _ _ _ _ _)
  rw [h.box]
  simp [hlen]
 ·have := h.fo.same (hoth _ (a.gf q hq).symm)
  show OwnR _ p.F 50 4 (l.map Fw.x ++ [{ q.x with rs := q.x.rs.set i v }]).length p.fc (a0p (l ++ [{ q with x := { q.x with rs := q.x.rs.set i v } }]))
  have e2 : (l.map Fw.x ++ [{ q.x with rs := q.x.rs.set i v }]).length = s.fr.length := by simp [hlen]
  have e3 : a0p (l ++ [{ q with x := { q.x with rs := q.x.rs.set i v } }]) = a0p p.fw := by rw [e, a0u, a0u]; simp [a0p]
  rw [e2, e3]
  exact this
 ·intro z hz
  rcases List.mem_append.1 hz with hz | hz
  ·have hz' : z ∈ p.fw := by rw [e]; exact List.mem_append_left _ hz
   refine (h.rg z hz').same (hoth _ ?_)
   have hn := a.gg
   rw [e, List.map_append] at hn
   have := (List.nodup_append.1 hn).2.2 z.g (List.mem_map.2 ⟨z, hz, rfl⟩) q.g (by simp)
   exact this
  ·simp only [List.mem_singleton] at hz
   subst hz
   have := (((h.rg q hq).set (i * 3) (.int .i64 v.k)).set (i * 3 + 1) (.int .i64 v.n)).set (i * 3 + 2) (.string v.s)
   rw [← b1t] at this
   simpa using this
end
section
variable {w0 : World} {p : Mp} {fv : Value} {mn : Int} {s : St} {W : World}
theorem Mc.pop (h : Mc w0 p fv mn s W) {l : List Fw} {q : Fw} (e : p.fw = l ++ [q]) :
  Mc w0 { p with fw := l } fv mn { s with fr := l.map Fw.x } (W.setCell ⟨p.B, 2, none⟩ (.slice (some ⟨p.F, 0, none⟩) l.length p.fc)) ∧ MK p.own W ({ p with fw := l } : Mp).own (W.setCell ⟨p.B, 2, none⟩ (.slice (some ⟨p.F, 0, none⟩) l.length p.fc)) := by
 have a := a1f h.nd
 have hlen := h.len.1
 rw [e] at hlen
 simp at hlen
 have hsub : ∀ z ∈ l, z ∈ p.fw := fun z hz => by rw [e]; exact List.mem_append_left _ hz
 have hoth : ∀ b, b ≠ p.B → (W.setCell ⟨p.B, 2, none⟩ (.slice (some ⟨p.F, 0, none⟩) l.length p.fc)).heap[b]? = W.heap[b]? := fun b hb => a0f _ _ hb
 have hk : MK p.own W ({ p with fw := l } : Mp).own (W.setCell ⟨p.B, 2, none⟩ (.slice (some ⟨p.F, 0, none⟩) l.length p.fc)) := by
  refine ⟨(MK.set a1d).k, fun k hk => .inl ?_⟩
  simp only [Mp.own, List.mem_cons, List.mem_map] at hk ⊢
  rcases hk with h | h | h | h | ⟨z, hz, h⟩
  ·exact .inl h
  ·exact .inr (.inl h)
  ·exact .inr (.inr (.inl h))
  ·exact .inr (.inr (.inr (.inl h)))
  ·exact .inr (.inr (.inr (.inr ⟨z, hsub z hz, h⟩)))
 refine ⟨h.re rfl hk ?_ ?_ ?_ (h.to.same (hoth _ a.bt.symm)) (h.uo.same (hoth _ a.bu.symm)) (fun z hz => (h.rg z (hsub z hz)).same (hoth _ (a.gb z (hsub z hz)))) rfl h.ht (fun q hq => .inl hq), hk⟩
 ·have hn := a.gg
  rw [e, List.map_append] at hn
  exact ⟨a.bf, a.bt, a.bu, a.ft, a.fu, a.tu, fun z hz => a.gb z (hsub z hz), fun z hz => a.gf z (hsub z hz), fun z hz => a.gt z (hsub z hz), fun z hz => a.gu z (hsub z hz), (List.nodup_append.1 hn).1⟩
 ·have := a0k (i := 2) (.slice (some ⟨p.F, 0, none⟩) l.length p.fc) h.box
  refine this.trans ?_
  simp [mcb]
 ·have := (h.fo.same (hoth _ a.bf.symm)).less (m := l.length) (by omega)
  show OwnR _ p.F 50 4 (l.map Fw.x).length p.fc (a0p l)
  rw [e, a0u, List.take_left' (a2q l)] at this
  rw [List.length_map]
  exact this
theorem Mc.push (h : Mc w0 p fv mn s W) (hm : MK p.own W p.own V) (h' : Mc w0 p fv mn s V) {q : Fw} (hq1 : W.heap.size ≤ q.g) (hq : OwnR V q.g 30 3 q.x.rs.length q.c (flat q.x.rs)) (hown : w3.ownsRow base 50 4 (.slice (some ⟨g, 0, none⟩) (s.fr.length + 1) cap) (s.fr.length + 1) (a0p p.fw ++ q.cells)) (hg : V.grownBy w3 (some p.F)) (hat : p.F = g ∨ g = V.heap.size) :
  ∃ p', p'.B = p.B ∧ p'.ap = p.ap ∧ Mc w0 p' fv mn { s with fr := s.fr ++ [q.x] } (w3.setCell ⟨p.B, 2, none⟩ (.slice (some ⟨g, 0, none⟩) (s.fr.length + 1) cap)) ∧ MK p.own W p'.own (w3.setCell ⟨p.B, 2, none⟩ (.slice (some ⟨g, 0, none⟩) (s.fr.length + 1) cap)) := by
 have a := a1f h.nd
 have hl := h'.lt
 have hlW := h.lt
 have hsz := hm.k.size
 have hnot : q.g ∉ p.own := fun e => by have := hlW _ e; omega
 have hgo : g ∈ p.own ∨ V.heap.size ≤ g := by
  rcases hat with e | e
  ·exact .inl (e ▸ a2f)
  ·exact .inr (by omega)
 have hnew : ∀ k ∈ p.own, k ≠ p.F → k ≠ g := fun k hk hne e => by
  rcases hat with e2 | e2
  ·exact hne (by omega)
  ·have := hl k hk; omega
 have hgB := hnew p.B a1d a.bf
 have hgT := hnew p.T a4d a.ft.symm
 have hgU := hnew p.U a4v a.fu.symm
 have hgg : ∀ z ∈ p.fw, z.g ≠ g := fun z hz => hnew z.g (a2t hz) (a.gf z hz)
 have hqg : q.g ≠ g := fun e => by
  rcases hat with e2 | e2
  ·exact hnot (by rw [e, ← e2]; exact a2f)
  ·have := hq.lt; omega
 have hoth : ∀ b, b < V.heap.size → b ≠ p.F → b ≠ p.B → (w3.setCell ⟨p.B, 2, none⟩ (.slice (some ⟨g, 0, none⟩) (s.fr.length + 1) cap)).heap[b]? = V.heap[b]? := fun b hb h1 h2 => (a0f _ _ h2).trans (hg.block b hb (fun e => h1 (by cases e; rfl)))
 have hgow := OwnR.of hown
 have hk : MK p.own W ({ p with F := g, fc := cap, fw := p.fw ++ [q] } : Mp).own (w3.setCell ⟨p.B, 2, none⟩ (.slice (some ⟨g, 0, none⟩) (s.fr.length + 1) cap)) := by
  refine ⟨hm.k.then (((a1n.grown hg).mono (fun k _ e => by cases e; exact a2f)).set p.B 2 _ (fun _ => a1d)) (fun j _ hj => hj), fun k hk => ?_⟩
  simp only [Mp.own, List.mem_cons, List.map_append, List.map_cons, List.map_nil, List.mem_append, List.mem_map] at hk
  rcases hk with h1 | h1 | h1 | h1 | ⟨z, hz, h1⟩ | h1 | h1
  ·exact .inl (h1 ▸ a1d)
  ·rcases hgo with h2 | h2
   ·exact .inl (h1 ▸ h2)
   ·exact .inr (by omega)
  ·exact .inl (h1 ▸ a4d)
  ·exact .inl (h1 ▸ a4v)
  ·exact .inl (h1 ▸ a2t hz)
  ·exact .inr (by omega)
  ·cases h1
 refine ⟨{ p with F := g, fc := cap, fw := p.fw ++ [q] }, rfl, rfl, h.re rfl hk ?_ ?_ ?_ ?_ ?_ ?_ ?_ h.ht (fun q hq => .inl hq), hk⟩
 ·refine ⟨hgB, a.bt, a.bu, hgT.symm, hgU.symm, a.tu, ?_, ?_, ?_, ?_, ?_⟩
  ·intro z hz
   rcases List.mem_append.1 hz with hz | hz
   ·exact a.gb z hz
   ·simp only [List.mem_singleton] at hz; subst hz; exact fun e => hnot (e ▸ a1d)
  ·intro z hz
   rcases List.mem_append.1 hz with hz | hz
   ·exact hgg z hz
   ·simp only [List.mem_singleton] at hz; subst hz; exact hqg
  ·intro z hz
   rcases List.mem_append.1 hz with hz | hz
   ·exact a.gt z hz
   ·simp only [List.mem_singleton] at hz; subst hz; exact fun e => hnot (e ▸ a4d)
  ·intro z hz
   rcases List.mem_append.1 hz with hz | hz
   ·exact a.gu z hz
   ·simp only [List.mem_singleton] at hz; subst hz; exact fun e => hnot (e ▸ a4v)
  ·rw [List.map_append, List.nodup_append]
   refine ⟨a.gg, by simp, fun x hx y hy => ?_⟩
   obtain ⟨z, hz, rfl⟩ := List.mem_map.1 hx
   simp at hy
   subst hy
   exact fun e => hnot (e ▸ a2t hz)
 ·have hb3 : w3.heap[p.B]? = V.heap[p.B]? := hg.block _ (hl _ a1d) (fun e => a.bf (Option.some.inj e))
  have := a0k (i := 2) (.slice (some ⟨g, 0, none⟩) (s.fr.length + 1) cap) (hb3.trans h'.box)
  refine this.trans ?_
  simp [mcb]
 ·have := hgow.1.same (W' := w3.setCell ⟨p.B, 2, none⟩ (.slice (some ⟨g, 0, none⟩) (s.fr.length + 1) cap)) (a0f _ _ hgB.symm)
  show OwnR _ g 50 4 (s.fr ++ [q.x]).length cap (a0p (p.fw ++ [q]))
  rw [a0u, List.length_append]
  simpa [a0p] using this
 ·exact h'.to.same (hoth _ (hl _ a4d) a.ft.symm a.bt.symm)
 ·exact h'.uo.same (hoth _ (hl _ a4v) a.fu.symm a.bu.symm)
 ·intro z hz
  rcases List.mem_append.1 hz with hz | hz
  ·exact (h'.rg z hz).same (hoth _ (hl _ (a2t hz)) (a.gf z hz) (a.gb z hz))
  ·simp only [List.mem_singleton] at hz
   subst hz
   exact hq.same (hoth _ hq.lt (fun e => hnot (e ▸ a2f)) (fun e => hnot (e ▸ a1d)))
 ·show (p.fw ++ [q]).map Fw.x = s.fr ++ [q.x]
  rw [List.map_append, h.hf]; rfl
theorem Mc.pushT (h : Mc w0 p fv mn s V) (hown : w3.ownsRow base 57 2 (.slice (some ⟨g, 0, none⟩) (s.tb.length + 1) cap) (s.tb.length + 1) (a0m p.tw ++ [.slice none 0 0, .slice none 0 0])) (hg : V.grownBy w3 (some p.T)) (hat : p.T = g ∨ g = V.heap.size) :
  ∃ p', p'.B = p.B ∧ p'.ap = p.ap ∧ p'.fw = p.fw ∧ p'.F = p.F ∧ Mc w0 p' fv mn { s with tb := s.tb ++ [⟨[], []⟩] } (w3.setCell ⟨p.B, 3, none⟩ (.slice (some ⟨g, 0, none⟩) (s.tb.length + 1) cap)) ∧ MK p.own V p'.own (w3.setCell ⟨p.B, 3, none⟩ (.slice (some ⟨g, 0, none⟩) (s.tb.length + 1) cap)) := by
 have a := a1f h.nd
 have hl := h.lt
 have hgo : g ∈ p.own ∨ V.heap.size ≤ g := by
  rcases hat with e | e
  ·exact .inl (e ▸ a4d)
  ·exact .inr (by omega)
 have hnew : ∀ k ∈ p.own, k ≠ p.T → k ≠ g := fun k hk hne e => by
  rcases hat with e2 | e2
  ·exact hne (by omega)
  ·have := hl k hk; omega
 have hgB := hnew p.B a1d a.bt
 have hgF := hnew p.F a2f a.ft
 have hgU := hnew p.U a4v a.tu.symm
 have hgg : ∀ z ∈ p.fw, z.g ≠ g := fun z hz => hnew z.g (a2t hz) (a.gt z hz)
 have hoth : ∀ b, b < V.heap.size → b ≠ p.T → b ≠ p.B → (w3.setCell ⟨p.B, 3, none⟩ (.slice (some ⟨g, 0, none⟩) (s.tb.length + 1) cap)).heap[b]? = V.heap[b]? := fun b hb h1 h2 => (a0f _ _ h2).trans (hg.block b hb (fun e => h1 (by cases e; rfl)))
 have hgow := OwnR.of hown
 have hk : MK p.own V ({ p with T := g, tc := cap, tw := p.tw ++ [⟨⟨[], []⟩, .slice none 0 0, .slice none 0 0⟩] } : Mp).own (w3.setCell ⟨p.B, 3, none⟩ (.slice (some ⟨g, 0, none⟩) (s.tb.length + 1) cap)) := by
  refine ⟨((a1n.grown hg).mono (fun k _ e => by cases e; exact a4d)).set p.B 3 _ (fun _ => a1d), fun k hk => ?_⟩
  simp only [Mp.own, List.mem_cons, List.mem_map] at hk
  rcases hk with h1 | h1 | h1 | h1 | ⟨z, hz, h1⟩
  ·exact .inl (h1 ▸ a1d)
  ·exact .inl (h1 ▸ a2f)
  ·rcases hgo with h2 | h2
   ·exact .inl (h1 ▸ h2)
   ·exact .inr (by omega)
  ·exact .inl (h1 ▸ a4v)
  ·exact .inl (h1 ▸ a2t hz)
 refine ⟨{ p with T := g, tc := cap, tw := p.tw ++ [⟨⟨[], []⟩, .slice none 0 0, .slice none 0 0⟩] }, rfl, rfl, rfl, rfl, h.re rfl hk ?_ ?_ ?_ ?_ ?_ ?_ h.hf ?_ ?_, hk⟩
 ·exact ⟨a.bf, hgB, a.bu, hgF, a.fu, hgU.symm, a.gb, a.gf, hgg, a.gu, a.gg⟩
 ·have hb3 : w3.heap[p.B]? = V.heap[p.B]? := hg.block _ (hl _ a1d) (fun e => a.bt (Option.some.inj e))
  have := a0k (i := 3) (.slice (some ⟨g, 0, none⟩) (s.tb.length + 1) cap) (hb3.trans h.box)
  refine this.trans ?_
  simp [mcb]
 ·exact h.fo.same (hoth _ (hl _ a2f) a.ft a.bf.symm)
 ·have := hgow.1.same (W' := w3.setCell ⟨p.B, 3, none⟩ (.slice (some ⟨g, 0, none⟩) (s.tb.length + 1) cap)) (a0f _ _ hgB.symm)
  show OwnR _ g 57 2 (s.tb ++ [(⟨[], []⟩ : Tb)]).length cap (a0m (p.tw ++ [(⟨⟨[], []⟩, .slice none 0 0, .slice none 0 0⟩ : Tw)]))
  rw [a5c, List.length_append]
  simpa [a0m] using this
 ·exact h.uo.same (hoth _ (hl _ a4v) a.tu.symm a.bu.symm)
 ·exact fun z hz => (h.rg z hz).same (hoth _ (hl _ (a2t hz)) (a.gt z hz) (a.gb z hz))
 ·show (p.tw ++ [_]).map Tw.t = s.tb ++ [_]
  rw [List.map_append, h.ht]; rfl
 ·intro z hz
  rcases List.mem_append.1 hz with hz | hz
  ·exact .inl hz
  ·simp only [List.mem_singleton] at hz
   subst hz
   exact .inr ⟨⟨none, 0, rfl, by simp, fun h => absurd rfl h⟩, ⟨none, 0, rfl, by simp, fun h => absurd rfl h⟩⟩
theorem Mc.pushU (h : Mc w0 p fv mn s V) {t : ByteArray} (hown : w3.ownsRow base 9 1 (.slice (some ⟨g, 0, none⟩) (s.out.length + 1) cap) (s.out.length + 1) (s.out.map Value.string ++ [.string t])) (hg : V.grownBy w3 (some p.U)) (hat : p.U = g ∨ g = V.heap.size) :
  ∃ p', p'.B = p.B ∧ p'.ap = p.ap ∧ p'.fw = p.fw ∧ p'.F = p.F ∧ Mc w0 p' fv mn { s with out := s.out ++ [t] } (w3.setCell ⟨p.B, 4, none⟩ (.slice (some ⟨g, 0, none⟩) (s.out.length + 1) cap)) ∧ MK p.own V p'.own (w3.setCell ⟨p.B, 4, none⟩ (.slice (some ⟨g, 0, none⟩) (s.out.length + 1) cap)) := by
 have a := a1f h.nd
 have hl := h.lt
 have hgo : g ∈ p.own ∨ V.heap.size ≤ g := by
  rcases hat with e | e
  ·exact .inl (e ▸ a4v)
  ·exact .inr (by omega)
 have hnew : ∀ k ∈ p.own, k ≠ p.U → k ≠ g := fun k hk hne e => by
  rcases hat with e2 | e2
  ·exact hne (by omega)
  ·have := hl k hk; omega
 have hgB := hnew p.B a1d a.bu
 have hgF := hnew p.F a2f a.fu
 have hgT := hnew p.T a4d a.tu
 have hgg : ∀ z ∈ p.fw, z.g ≠ g := fun z hz => hnew z.g (a2t hz) (a.gu z hz)
 have hoth : ∀ b, b < V.heap.size → b ≠ p.U → b ≠ p.B → (w3.setCell ⟨p.B, 4, none⟩ (.slice (some ⟨g, 0, none⟩) (s.out.length + 1) cap)).heap[b]? = V.heap[b]? := fun b hb h1 h2 => (a0f _ _ h2).trans (hg.block b hb (fun e => h1 (by cases e; rfl)))
 have hgow := OwnR.of hown
 have hk : MK p.own V ({ p with U := g, uc := cap } : Mp).own (w3.setCell ⟨p.B, 4, none⟩ (.slice (some ⟨g, 0, none⟩) (s.out.length + 1) cap)) := by
  refine ⟨((a1n.grown hg).mono (fun k _ e => by cases e; exact a4v)).set p.B 4 _ (fun _ => a1d), fun k hk => ?_⟩
  simp only [Mp.own, List.mem_cons, List.mem_map] at hk
  rcases hk with h1 | h1 | h1 | h1 | ⟨z, hz, h1⟩
  ·exact .inl (h1 ▸ a1d)
  ·exact .inl (h1 ▸ a2f)
  ·exact .inl (h1 ▸ a4d)
  ·rcases hgo with h2 | h2
   ·exact .inl (h1 ▸ h2)
   ·exact .inr (by omega)
  ·exact .inl (h1 ▸ a2t hz)
 refine ⟨{ p with U := g, uc := cap }, rfl, rfl, rfl, rfl, h.re rfl hk ?_ ?_ ?_ ?_ ?_ ?_ h.hf h.ht (fun q hq => .inl hq), hk⟩
 ·exact ⟨a.bf, a.bt, hgB, a.ft, hgF, hgT, a.gb, a.gf, a.gt, hgg, a.gg⟩
 ·have hb3 : w3.heap[p.B]? = V.heap[p.B]? := hg.block _ (hl _ a1d) (fun e => a.bu (Option.some.inj e))
  have := a0k (i := 4) (.slice (some ⟨g, 0, none⟩) (s.out.length + 1) cap) (hb3.trans h.box)
  refine this.trans ?_
  simp [mcb]
 ·exact h.fo.same (hoth _ (hl _ a2f) a.fu a.bf.symm)
 ·exact h.to.same (hoth _ (hl _ a4d) a.tu a.bt.symm)
 ·have := hgow.1.same (W' := w3.setCell ⟨p.B, 4, none⟩ (.slice (some ⟨g, 0, none⟩) (s.out.length + 1) cap)) (a0f _ _ hgB.symm)
  show OwnR _ g 9 1 (s.out ++ [t]).length cap ((s.out ++ [t]).map Value.string)
  rw [List.map_append, List.length_append]
  exact this
 ·exact fun z hz => (h.rg z hz).same (hoth _ (hl _ (a2t hz)) (a.gu z hz) (a.gb z hz))
theorem a6t (l : List Tw) (i : Nat) (q : Tw) : a0m (l.set i q) = ((a0m l).set (i * 2) q.a).set (i * 2 + 1) q.b := by
 induction l generalizing i with
 | nil => simp [a0m]
 | cons x xs ih =>
  cases i with
  | zero => simp [a0m]
  | succ i =>
   have e : ∀ (y : Tw) (zs : List Tw), a0m (y :: zs) = y.a :: y.b :: a0m zs := fun y zs => by simp [a0m]
   rw [List.set_cons_succ, e, ih, e, show (i + 1) * 2 = i * 2 + 1 + 1 by omega]
   simp only [List.set_cons_succ]
theorem Mc.tabCells (h : Mc w0 p fv mn s W) (ht : s.tb[i]? = some t) : ∃ q, p.tw[i]? = some q ∧ q.t = t ∧ W.cell? ⟨p.T, i * 2, none⟩ = some q.a ∧ W.cell? ⟨p.T, i * 2 + 1, none⟩ = some q.b ∧ W.frozen? ⟨p.T, i * 2, none⟩ = false ∧ W.frozen? ⟨p.T, i * 2 + 1, none⟩ = false ∧ Rw W (p.own ++ p.ap) q.a t.ks ∧ Rw W (p.own ++ p.ap) q.b t.vs := by
 rw [← h.ht, List.getElem?_map] at ht
 obtain ⟨q, hq, rfl⟩ := Option.map_eq_some_iff.1 ht
 have key : ∀ (l : List Tw) (i : Nat), l[i]? = some q → (a0m l)[i * 2]? = some q.a ∧ (a0m l)[i * 2 + 1]? = some q.b := by
  intro l
  induction l with
  | nil => intro i hi; simp at hi
  | cons x xs ih =>
   intro i hi
   have e : a0m (x :: xs) = x.a :: x.b :: a0m xs := by simp [a0m]
   rw [e]
   cases i with
   | zero => simp at hi; subst hi; simp
   | succ i =>
    rw [show (i + 1) * 2 = i * 2 + 1 + 1 by omega]
    simp only [List.getElem?_cons_succ] at hi ⊢
    exact ih i hi
 obtain ⟨k1, k2⟩ := key _ _ hq
 have hm := List.mem_of_getElem? hq
 exact ⟨q, hq, rfl, (h.to.cell k1).1, (h.to.cell k2).1, (h.to.cell k1).2, (h.to.cell k2).2, (h.tr q hm).1, (h.tr q hm).2⟩
theorem a9w {v : Value} (h : W.ownsRow base 30 3 v xs.length (flat xs)) (hO : ∀ k ∈ O, k < base) : Rw W O v xs := by
 obtain ⟨a, cap, e, hl, hx⟩ := b6u h
 refine ⟨a, cap, e, hl, fun hne => ?_⟩
 obtain ⟨b, off, ea, hb, hc⟩ := hx hne
 refine ⟨b, off, ea, fun hk => ?_, hb, hc⟩
 have := hO b hk
 have hge := (a0z h (b := b) (by rw [e, ea]; rfl)).1
 omega
theorem Mc.setTab (h : Mc w0 p fv mn s W) (hb : Below W.heap.size W V) (i : Nat) {a b : Value} (ho : Own2 W.heap.size V a b t.ks t.vs) :
  ∃ p', p'.B = p.B ∧ p'.ap = p.ap ∧ p'.fw = p.fw ∧ p'.F = p.F ∧ Mc w0 p' fv mn { s with tb := s.tb.set i t } ((V.setCell ⟨p.T, i * 2, none⟩ a).setCell ⟨p.T, i * 2 + 1, none⟩ b) ∧ MK p.own W p'.own ((V.setCell ⟨p.T, i * 2, none⟩ a).setCell ⟨p.T, i * 2 + 1, none⟩ b) := by
 have hV := h.on hb
 have ap := a1f h.nd
 have hk0 : MK p.own V p.own ((V.setCell ⟨p.T, i * 2, none⟩ a).setCell ⟨p.T, i * 2 + 1, none⟩ b) := (MK.set a4d).trans (MK.set a4d)
 have hoth : ∀ c, c ≠ p.T → ((V.setCell ⟨p.T, i * 2, none⟩ a).setCell ⟨p.T, i * 2 + 1, none⟩ b).heap[c]? = V.heap[c]? := fun c hc => (a0f _ _ hc).trans (a0f _ _ hc)
 have hk : MK p.own W ({ p with tw := p.tw.set i ⟨t, a, b⟩ } : Mp).own ((V.setCell ⟨p.T, i * 2, none⟩ a).setCell ⟨p.T, i * 2 + 1, none⟩ b) := (MK.below hb).trans hk0
 refine ⟨{ p with tw := p.tw.set i ⟨t, a, b⟩ }, rfl, rfl, rfl, rfl, h.re rfl hk ?_ ?_ ?_ ?_ ?_ ?_ h.hf ?_ ?_, hk⟩
 ·exact ⟨ap.bf, ap.bt, ap.bu, ap.ft, ap.fu, ap.tu, ap.gb, ap.gf, ap.gt, ap.gu, ap.gg⟩
 ·refine (hoth _ ap.bt).trans ?_
  rw [hV.box]
  simp
 ·exact hV.fo.same (hoth _ ap.ft)
 ·have := (hV.to.set (i * 2) a).set (i * 2 + 1) b
  show OwnR _ p.T 57 2 (s.tb.set i t).length p.tc (a0m (p.tw.set i ⟨t, a, b⟩))
  rw [a6t, List.length_set]
  exact this
 ·exact hV.uo.same (hoth _ ap.tu.symm)
 ·exact fun z hz => (hV.rg z hz).same (hoth _ (ap.gt z hz))
 ·show (p.tw.set i ⟨t, a, b⟩).map Tw.t = s.tb.set i t
  rw [List.map_set, h.ht]
 ·intro z hz
  rcases List.mem_or_eq_of_mem_set hz with hz | rfl
  ·exact .inl hz
  ·have hlt : ∀ k ∈ p.own ++ p.ap, k < W.heap.size := fun k hk' => by
    rcases List.mem_append.1 hk' with h1 | h1
    ·exact h.lt k h1
    ·exact (h.al k h1).1
   have k1 := (a9w ho.k hlt).keepA hk0
   have k2 := (a9w ho.v hlt).keepA hk0
   exact .inr ⟨k1, k2⟩
end
abbrev pan (v : Value) : List PanicEntry := [{ v := v, recovered := false }]
abbrev flr (c : Int) : Value := .iface 112 (.agg #[.int .i64 c])
theorem a8m (W : World) : Calls Tryz.prog 114 #[.int .i64 0] W fun e W' => e = .returned (.tuple #[]) ∧ W' = W := by
 go_enter Tryz.func114, Tryz.ntmps114
 go_wp2
 go_end0
 exact ⟨rfl, rfl⟩
theorem a6u (c : Int) (W : World) (h : (c != 0) = true) : Calls Tryz.prog 114 #[.int .i64 c] W fun e W' => e = .panicked (pan (flr c)) ∧ W' = W := by
 go_enter Tryz.func114, Tryz.ntmps114
 go_wp2
 exact ⟨rfl, rfl, rfl⟩
theorem a4t (c : Int) (W : World) : Calls Tryz.prog 97 #[.bool false, .int .i64 c] W fun e W' => e = .returned (.tuple #[]) ∧ W' = W := by
 go_enter Tryz.func97, Tryz.ntmps97
 go_wp2
 go_end0
 exact ⟨rfl, rfl⟩
theorem a8d (c : Int) (W : World) (h : (c != 0) = true) : Calls Tryz.prog 97 #[.bool true, .int .i64 c] W fun e W' => e = .panicked (pan (flr c)) ∧ W' = W := by
 have hn := a6u c
 go_enter Tryz.func97, Tryz.ntmps97
 go_wp2_with (go_at_call 114; refine (hn _ h).mono ?_; rintro e w' ⟨rfl, rfl⟩)
 exact ⟨rfl, rfl, rfl⟩
section
variable {w0 : World} {p : Mp} {fv : Value} {mn : Int} {s : St} {W : World}
theorem Mc.cells (h : Mc w0 p fv mn s W) : W.cell? ⟨p.B, 0, none⟩ = some fv ∧ W.cell? ⟨p.B, 1, none⟩ = some (.int .i64 mn) ∧ W.cell? ⟨p.B, 2, none⟩ = some (.slice (some ⟨p.F, 0, none⟩) s.fr.length p.fc) ∧ W.cell? ⟨p.B, 3, none⟩ = some (.slice (some ⟨p.T, 0, none⟩) s.tb.length p.tc) ∧ W.cell? ⟨p.B, 4, none⟩ = some (.slice (some ⟨p.U, 0, none⟩) s.out.length p.uc) ∧ W.cell? ⟨p.B, 5, none⟩ = some (.int .i64 s.st) ∧ W.cell? ⟨p.B, 6, none⟩ = some (.int .i64 s.en) ∧ W.cell? ⟨p.B, 7, none⟩ = some (.int .i64 s.er) ∧ W.cell? ⟨p.B, 8, none⟩ = some (.int .i64 s.la.k) ∧ W.cell? ⟨p.B, 9, none⟩ = some (.int .i64 s.la.n) ∧ W.cell? ⟨p.B, 10, none⟩ = some (.string s.la.s) ∧ ∀ i, W.frozen? ⟨p.B, i, none⟩ = false :=
 ⟨a0a h.box rfl, a0a h.box rfl, a0a h.box rfl, a0a h.box rfl, a0a h.box rfl, a0a h.box rfl, a0a h.box rfl, a0a h.box rfl, a0a h.box rfl, a0a h.box rfl, a0a h.box rfl, fun _ => a0e h.box⟩
theorem a3s (B F fc k : Nat) (W : World) (c2 : W.cell? ⟨B, 2, none⟩ = some (.slice (some ⟨F, 0, none⟩) (k + 1) fc)) (hk : k ≤ 1000) :
  Calls Tryz.prog 76 #[.pointer (some ⟨B, 0, none⟩)] W fun e W' => e = .returned (.pointer (some ⟨F, k * 4, none⟩)) ∧ ∃ n, W' = W.drewN n := by
 go_enter Tryz.func76, Tryz.ntmps76
 go_wp2
 go_quiet ((fail))
 go_wp2
 go_ret
 exact ⟨rfl, _, rfl⟩
end
theorem a9x : (Tryz.prog.info? 57).map (fun i => (i.zero, i.size, i.bytes)) = some (some (.agg #[.slice none 0 0, .slice none 0 0]), 2, 48) := by kernel_rfl
theorem b0v : (Tryz.prog.info? 50).map (fun i => (i.zero, i.size, i.bytes)) = some (some (.agg #[.int .i64 0, .int .i64 0, .int .i64 0, .slice none 0 0]), 4, 48) := by kernel_rfl
theorem c0x : (Tryz.prog.info? 9).map (fun i => (i.zero, i.size, i.bytes)) = some (some (.string ⟨#[]⟩), 1, 16) := by kernel_rfl
theorem a1h {T : TypeId} {z : Value} {by' : Nat} (h : (Tryz.prog.info? T).map (fun i => (i.zero, i.size, i.bytes)) = some (some z, sz, by')) : ∃ i, Tryz.prog.info? T = some i ∧ i.zero = some z ∧ i.size = sz ∧ i.bytes = by' := by
 obtain ⟨i, h1, h2⟩ := Option.map_eq_some_iff.1 h
 simp only [Prod.mk.injEq] at h2
 exact ⟨i, h1, h2.1, h2.2.1, h2.2.2⟩
theorem d4m {x : Vl} (h : tm[2]?.getD undef = .pointer (some ⟨B, 0, none⟩)) (hx : W.heap[B]? = some (bx x)) : (results Tryz.f98 tm).run Tryz.prog W = .ok x.v W := by
 obtain ⟨c0, c1, c2, _, _, _⟩ := in3 hx
 simp [results, Tryz.results98, go_sem, h, c0, c1, c2]
theorem MK.scratch {Y X : World} (h : MK O W O' Y) (hk : a1n (· = c) Y X) (hc : W.heap.size ≤ c) : MK O W O' X := ⟨h.k.then hk (fun j hj e => by omega), h.o⟩
theorem a8e (Y : World) (c : Nat) (v : Vl) : a1n (· = c) Y (put3 Y c v) := (((a1n.refl (fun k => k = c) Y).set c 0 _ (fun _ => rfl)).set c 1 _ (fun _ => rfl)).set c 2 _ (fun _ => rfl)
section
variable {w0 : World} {p : Mp} {fv : Value} {mn : Int} {s : St} {W : World}
theorem b4m (h : Mc w0 p fv mn s W) (h2 : s.tb.length = 200) : Calls Tryz.prog 98 #[.pointer (some ⟨p.B, 0, none⟩)] W fun e W' => e = .panicked (pan (flr 1)) ∧ Below W.heap.size W W' := by
 obtain ⟨_, _, _, c3, _⟩ := h.cells
 have hB := h.lt _ a1d
 rw [h2] at c3
 clear h2
 go_enter Tryz.func98, Tryz.ntmps98
 go_wp2_with (go_at_call 97; refine (a8d 1 _ rfl).mono ?_; rintro e w' ⟨rfl, rfl⟩)
 exact ⟨rfl, rfl, a0c (Below.refl _ _) _⟩
theorem b4n (h : Mc w0 p fv mn s W) (hnt : s.tb.length = nt) (h2 : nt < 200) : Calls Tryz.prog 98 #[.pointer (some ⟨p.B, 0, none⟩)] W fun e W' => e = .returned (tbV nt).v ∧ ∃ p', p'.B = p.B ∧ p'.ap = p.ap ∧ p'.fw = p.fw ∧ p'.F = p.F ∧ Mc w0 p' fv mn { s with tb := s.tb ++ [⟨[], []⟩] } W' ∧ MK p.own W p'.own W' := by
 have hb := a0c (Below.refl W.heap.size W) (.cells #[.int .i64 0, .int .i64 0, .string ⟨#[]⟩] 30)
 have gN : (W.alloc (.cells #[.int .i64 0, .int .i64 0, .string ⟨#[]⟩] 30)).heap[W.heap.size]? = some (bx nilV) := a0h _ _
 obtain ⟨V, hV⟩ := exq (W.alloc (.cells #[.int .i64 0, .int .i64 0, .string ⟨#[]⟩] 30))
 rw [hV] at hb gN
 have h' := h.on hb
 have hltW := h.lt
 obtain ⟨_, _, _, c3, _⟩ := h'.cells
 have hz : W.heap.size < V.heap.size := a0n gN
 have hb2 := a0c (Below.refl V.heap.size V) (.cells #[.slice none 0 0, .slice none 0 0] 57)
 have gQ : (V.alloc (.cells #[.slice none 0 0, .slice none 0 0] 57)).heap[V.heap.size]? = some (.cells #[.slice none 0 0, .slice none 0 0] 57) := a0h _ _
 obtain ⟨Q, hQ⟩ := exq (V.heap.size)
 obtain ⟨U, hU⟩ := exq (V.alloc (.cells #[.slice none 0 0, .slice none 0 0] 57))
 rw [hU] at hb2 gQ
 rw [hQ] at gQ
 have hu := h'.on hb2
 obtain ⟨i0, hi0, hz0, hz1, hz2⟩ := a1h a9x
 have hlt := hu.lt
 have d3 : U.cell? ⟨p.B, 3, none⟩ = some (.slice (some ⟨p.T, 0, none⟩) s.tb.length p.tc) := hu.cells.2.2.2.1
 have hown := hu.to.owns (base := w0.heap.size) (hu.lo _ a4d)
 have hnews : ∀ j x, [Value.slice none 0 0, Value.slice none 0 0][j]? = some x → U.cell? ((⟨Q, 0, none⟩ : Addr).add j) = some x := fun j x hx => by
  match j, hx with
  | 0, hx => cases hx; simpa [Addr.add] using a0a (i := 0) gQ rfl
  | 1, hx => cases hx; simpa [Addr.add] using a0a (i := 1) gQ rfl
  | j + 2, hx => simp at hx
 have hone : ∀ x ∈ [Value.slice none 0 0, Value.slice none 0 0], x.oneCell' = true := fun x hx => by simp at hx; subst hx; rfl
 have h63 : s.tb.length + 1 ≤ maxLen := by unfold maxLen; omega
 have hby : (s.tb.length + 1) * 48 ≤ 140737488355328 := by omega
 have hsz := hu.bl.size
 have ap := a1f h.nd
 have hne : ¬ W.heap.size = p.B := fun e => by have := hltW _ a1d; omega
 have hneT : some p.B ≠ some p.T := fun e => ap.bt (Option.some.inj e)
 rw [hnt] at c3 d3 hown h63 hby
 have hdec : ((nt : Int) == 200) = false := by simp; omega
 have hx : U.heap[p.B]? = _ := hu.box
 have hgU : U.heap[W.heap.size]? = some (bx nilV) := a0d hb2 gN
 have hWT : some W.heap.size ≠ some p.T := fun e => by have := hltW _ a4d; have := Option.some.inj e; omega
 replace hnt : Hid _ := hnt
 go_enter Tryz.func98, Tryz.ntmps98
 go_wp2_with (first | (go_at_call 97; refine (a4t 1 _).mono ?_; rintro e w' ⟨rfl, rfl⟩) | (at_builtin; refine wpList_append_lies _ (by rfl) _ _ _ (by rfl) w0.heap.size 57 i0 _ 2 48 Tryz.underlying26 hi0 hz0 hz1 hz2 rfl (by omega) (.slice (some ⟨p.T, 0, none⟩) nt p.tc) nt _ (by rfl) hown ⟨Q, 0, none⟩ 1 1 [Value.slice none 0 0, Value.slice none 0 0] (by rfl) (by rfl) hnews hone (by omega) h63 hby hsz _ rfl ?_; intro g3 cap3 w3 hown3 hgrow hat hlt3; have p1 := (hgrow.block _ (hlt _ a1d) hneT).trans hx; have d3 : w3.cell? ⟨p.B, 3, none⟩ = some (.slice (some ⟨p.T, 0, none⟩) s.tb.length p.tc) := a0a p1 rfl; have f3 : w3.frozen? ⟨p.B, 3, none⟩ = false := a0e p1; have g1 := (hgrow.block _ (a0n hgU) hWT).trans hgU; obtain ⟨c0, c1, c2, f0, f1, f2⟩ := in3 g1))
 have hm := (h.more hb (c := W.heap.size) (Nat.le_refl _) hz).on hb2
 rw [← hnt.out] at hown3 hat
 have hat' : p.T = g3 ∨ g3 = U.heap.size := by
  rcases hat with e | e
  ·exact .inl (Option.some.inj e)
  ·exact .inr e
 obtain ⟨p', e1, e2, e3, e4, hM, hK⟩ := hm.pushT hown3 hgrow hat'
 have hc : W.heap.size ∈ p'.ap := by rw [e2]; simp
 have hM2 := (hM.wrote hc h.bl.size (a8e _ W.heap.size (tbV nt))).less e2
 have hK2 : MK p.own W p'.own _ := ((MK.below (a0b hb hb2)).trans hK).scratch (a8e _ W.heap.size (tbV nt)) (Nat.le_refl _)
 have ek : tbV nt = ⟨4, nt, E0, by decide, WalkArith.wf_i64 (by omega), by decide⟩ := by unfold tbV; rw [dif_pos (by omega)]
 have gg : (w3.setCell ⟨p.B, 3, none⟩ (.slice (some ⟨g3, 0, none⟩) (s.tb.length + 1) cap3)).heap[W.heap.size]? = some (bx nilV) := (a0f _ _ (fun e => by have := hltW _ a1d; omega)).trans g1
 have gr := a0o (tbV nt) gg
 rw [hnt.out] at gr hM2 hK2
 rw [ek] at gr hM2 hK2 ⊢
 exact bodyPost_ret (d4m (B := W.heap.size) rfl gr) rfl ⟨rfl, { p' with ap := p.ap }, e1, rfl, e3, e4, hM2, hK2⟩
end
theorem c5h (r j : Nat) (hj : j < r * 3) : (flat (List.replicate r nilV))[j]? = #[Value.int .i64 0, Value.int .i64 0, Value.string ⟨#[]⟩][j % 3]? := by
 induction r generalizing j with
 | zero => omega
 | succ r ih =>
  have e : flat (List.replicate (r + 1) nilV) = [Value.int .i64 0, Value.int .i64 0, Value.string ⟨#[]⟩] ++ flat (List.replicate r nilV) := by simp [flat, List.replicate_succ, nilV]
  rw [e]
  match j, hj with
  | 0, _ => rfl
  | 1, _ => rfl
  | 2, _ => rfl
  | j + 3, hj =>
   rw [List.getElem?_append_right (by simp)]
   simp only [List.length_cons, List.length_nil, Nat.zero_add, Nat.reduceAdd, Nat.add_sub_cancel]
   rw [ih j (by omega), Nat.add_mod_right]
theorem a9y (r : Nat) (hr : r ≤ 250) : ∃ mc : Array Value, (∀ u : World, (Instr.makeSlice 48 (.int .i64 (r : Nat)) (.int .i64 (r : Nat))).run Tryz.prog u = .ok (.slice (some ⟨u.heap.size, 0, none⟩) r r) (u.alloc (.cells mc 30))) ∧ mc.size = r * 3 ∧ mc.toList = flat (List.replicate r nilV) := by
 obtain ⟨i0, hi0, hz0, hz1, hz2⟩ := a1h b0p
 refine ⟨madeCells #[.int .i64 0, .int .i64 0, .string ⟨#[]⟩] (r * 3), fun u => ?_, size_madeCells _ _, ?_⟩
 ·have := run_makeSlice (P := Tryz.prog) (w := u) 48 30 i0 _ Tryz.underlying48 hi0 hz0 .i64 .i64 (r : Nat) (r : Nat) (by omega) (by omega) (by rw [hz1]; omega) (by rw [hz2]; omega) (by omega)
  rw [hz1] at this
  simp only [Int.toNat_natCast] at this
  exact this
 ·have hl : (madeCells #[.int .i64 0, .int .i64 0, .string ⟨#[]⟩] (r * 3)).toList.length = r * 3 := by rw [Array.length_toList]; exact size_madeCells _ _
  have hl2 : (flat (List.replicate r nilV)).length = r * 3 := by rw [a1j, List.length_replicate]
  apply List.ext_getElem?
  intro j
  by_cases hj : j < r * 3
  ·rw [c5h r j hj]
   have h3 : j % 3 < 3 := Nat.mod_lt _ (by omega)
   have h4 : j % 3 = 0 ∨ j % 3 = 1 ∨ j % 3 = 2 := by omega
   simp only [madeCells, Array.toList_map, Array.toList_range, List.getElem?_map, List.getElem?_range hj, Option.map_some]
   rcases h4 with h4 | h4 | h4 <;> simp [h4]
  ·rw [List.getElem?_eq_none (by omega), List.getElem?_eq_none (by omega)]
theorem d4n {a b c : Value} (h : tm[4]?.getD undef = .pointer (some ⟨B, 0, none⟩)) (hx : W.heap[B]? = some (.cells #[a, b, c, d] 50)) : (results Tryz.f25 tm).run Tryz.prog W = .ok (.agg #[a, b, c, d]) W := by
 have d0 : W.cell? ⟨B, 0, none⟩ = some a := a0a hx rfl
 have d1 : W.cell? ⟨B, 1, none⟩ = some b := a0a hx rfl
 have d2 : W.cell? ⟨B, 2, none⟩ = some c := a0a hx rfl
 have d3 : W.cell? ⟨B, 3, none⟩ = some d := a0a hx rfl
 simp [results, Tryz.results25, go_sem, h, d0, d1, d2, d3]
theorem a6v (B b off nf cf n r : Nat) (W : World) (c0 : W.cell? ⟨B, 0, none⟩ = some (.slice (some ⟨b, off, none⟩) nf cf)) (hn : n < nf) (d1 : W.cell? ⟨b, off + n * 4 + 1, none⟩ = some (.int .i64 (r : Nat))) (hr : r ≤ 250) :
  Calls Tryz.prog 25 #[.pointer (some ⟨B, 0, none⟩), .int .i64 (n : Nat)] W fun e W' => ∃ g, e = .returned (.agg #[.int .i64 (n : Nat), .int .i64 0, .int .i64 0, .slice (some ⟨g, 0, none⟩) r r]) ∧ OwnR W' g 30 3 r r (flat (List.replicate r nilV)) ∧ W.heap.size ≤ g ∧ Below W.heap.size W W' := by
 have hB := World.block_lt_of_cell? _ _ c0
 have hb := World.block_lt_of_cell? _ _ d1
 simp only at hB hb
 obtain ⟨mc, hmk, hms, hml⟩ := a9y r hr
 go_enter Tryz.func25, Tryz.ntmps25
 go_wp2
 refine bodyPost_ret (d4n (B := W.heap.size) rfl (a0g _ (a0h _ _))) rfl ⟨W.heap.size + 1, rfl, ⟨by rw [a1j, List.length_replicate], mc, ?_, Nat.le_refl _, by unfold maxLen; omega, hms, ?_⟩, by omega, a0c (a0c (Below.refl _ _) _) _⟩
 ·have := a0h (W.alloc (.cells #[.int .i64 (n : Nat), .int .i64 0, .int .i64 0, .slice (some ⟨W.heap.size + 1, 0, none⟩) r r] 50)) (.cells mc 30)
  simpa using this
 ·rw [← hml, List.take_of_length_le (by rw [Array.length_toList]; omega)]
theorem b3b (t : ByteArray) (W : World) (ht : t.size ≤ 300) : Calls Tryz.prog 74 #[.string t] W fun e W' => e = .returned (.string t) ∧ Below W.heap.size W W' := by
 have hc := fun w => Tryz.stringslite_Clone t w (by omega)
 go_enter Tryz.func74, Tryz.ntmps74
 go_wp2_with (go_at_call 95; refine (hc _).mono ?_; rintro e w2 ⟨rfl, hb2⟩)
 go_ret
 exact ⟨rfl, hb2⟩
theorem d4o {x : Vl} (h : tm[2]?.getD undef = .pointer (some ⟨B, 0, none⟩)) (hx : W.heap[B]? = some (bx x)) : (results Tryz.f70 tm).run Tryz.prog W = .ok x.v W := by
 obtain ⟨c0, c1, c2, _, _, _⟩ := in3 hx
 simp [results, Tryz.results70, go_sem, h, c0, c1, c2]
theorem a6w (W : World) (a b : Obj) : ((W.alloc a).alloc b).heap[W.heap.size + 1]? = some b := by
 have := a0h (W.alloc a) b
 simpa using this
theorem b0w (v : Vl) (W : World) (hv : v.s.size ≤ 300) : Calls Tryz.prog 70 #[v.v] W fun e W' => e = .returned v.v ∧ Below W.heap.size W W' := by
 have hc := b3b v.s
 have E0 := a0c (a0c (Below.refl W.heap.size W) (bx v)) (bx nilV)
 have g0 : ((W.alloc (bx v)).alloc (bx nilV)).heap[W.heap.size]? = some (bx v) := a0g _ (a0h _ _)
 have g1 := a6w W (bx v) (bx nilV)
 go_enter Tryz.func70, Tryz.ntmps70
 go_wp2_with (go_at_call 74; refine (hc _ hv).mono ?_; rintro e w2 ⟨rfl, hb2⟩; obtain ⟨a0, a1, a2, f0, f1, f2⟩ := in3 (a0d hb2 g0); obtain ⟨b0, b1, b2, z0, z1, z2⟩ := in3 (a0d hb2 g1); refine Hid.out ?_)
 refine Lib.hid ?_
 have hz := a0n (a0d hb2 g1)
 have e1 := a0k (i := 2) (.string v.s) (a0d hb2 g0)
 have e2 : (w2.setCell ⟨W.heap.size, 2, none⟩ (.string v.s)).heap[W.heap.size + 1]? = some (bx nilV) := (a0f _ _ (by omega)).trans (a0d hb2 g1)
 have E2 : Below W.heap.size W (w2.setCell ⟨W.heap.size, 2, none⟩ (.string v.s)) := (a0b E0 hb2).setCell (p := ⟨W.heap.size, 2, none⟩) (Nat.le_refl _) _
 go_wp2
 refine bodyPost_ret (d4o (B := W.heap.size + 1) (x := v) rfl ?_) rfl ⟨rfl, ?_⟩
 ·exact a0o v e2
 ·exact a0r v E2 (by omega)
theorem a9d (T : TypeId) (e : TypeId) (z : Value) (sz by' n : Nat) (hu : Tryz.prog.underlying T = some (.slice e)) (hi : (Tryz.prog.info? e).map (fun i => (i.zero, i.size, i.bytes)) = some (some z, sz, by')) (hn : n ≤ 100000) (hsz : sz ≤ 100) (hby : by' ≤ 1000) : ∃ mc : Array Value, (∀ u : World, (Instr.makeSlice T (.int .i64 0) (.int .i64 (n : Nat))).run Tryz.prog u = .ok (.slice (some ⟨u.heap.size, 0, none⟩) 0 n) (u.alloc (.cells mc e))) ∧ mc.size = n * sz := by
 obtain ⟨i0, hi0, hz0, hz1, hz2⟩ := a1h hi
 refine ⟨madeCells z.cells (n * sz), fun u => ?_, size_madeCells _ _⟩
 have hm : n * sz ≤ 100000 * 100 := Nat.mul_le_mul hn hsz
 have hm2 : by' * n ≤ 1000 * 100000 := Nat.mul_le_mul hby hn
 have hm3 : (by' : Int) * (n : Int) ≤ 281474976710656 := by
  have h9 : ((by' * n : Nat) : Int) ≤ 281474976710656 := by omega
  rwa [Int.natCast_mul] at h9
 have := run_makeSlice (P := Tryz.prog) (w := u) T e i0 _ hu hi0 hz0 .i64 .i64 0 (n : Nat) (by omega) (by omega) (by rw [hz1]; simp only [Int.toNat_natCast]; omega) (by rw [hz2]; exact hm3) (by omega)
 rw [hz1] at this
 simp only [Int.toNat_natCast, Int.toNat_zero] at this
 exact this
theorem OwnR.made {mc : Array Value} (hs : mc.size = n * sz) (hn : n ≤ 100000) : OwnR (W.alloc (.cells mc e)) W.heap.size e sz 0 n [] :=
 ⟨by simp, mc, a0h _ _, Nat.zero_le _, by unfold maxLen; omega, hs, by simp⟩
theorem a9z (sv : Value) (xs : List Vl) (W : World) (hr : Row W.heap.size W sv xs) (hl : xs.length ≤ 1000) (hs : ∀ x ∈ xs, x.s.size ≤ 300) :
  Calls Tryz.prog 69 #[sv, .func (.func 70) #[] #[]] W fun e W' => ∃ g cap, e = .returned (.slice (some ⟨g, 0, none⟩) xs.length cap) ∧ OwnR W' g 30 3 xs.length cap (flat xs) ∧ W.heap.size ≤ g ∧ Below W.heap.size W W' := by
 obtain ⟨a, cp, rfl, _, hx⟩ := hr
 obtain ⟨n, hn⟩ := exq (xs.length)
 rw [hn] at hl ⊢
 obtain ⟨mc, hmk, hms⟩ := a9d 48 30 _ 3 32 n Tryz.underlying48 b0p (by omega) (by omega) (by omega)
 obtain ⟨i0, hi0, hz0, hz1, hz2⟩ := a1h b0p
 replace hn : Hid _ := hn
 replace hx : Hid _ := hx
 replace hs : Hid _ := hs
 go_enter Tryz.func69, Tryz.ntmps69
 go_wp2
 go_loopw [5, 13] (fun t i wr => ∃ k g cap : Nat, k ≤ n ∧ i = .int .i64 (k : Nat) ∧ t = .slice (some ⟨g, 0, none⟩) k cap ∧ Hid (OwnR wr g 30 3 k cap (flat (xs.take k))) ∧ W.heap.size ≤ g ∧ Below W.heap.size W wr) (fun _ i _ => n - (intOf i).toNat)
 case atStart => exact ⟨0, W.heap.size, n, Nat.zero_le _, rfl, rfl, OwnR.made hms (by omega), Nat.le_refl _, a0c (Below.refl _ _) _⟩
 case round =>
  obtain ⟨k, g, cap, hk, rfl, rfl, hO, hg, hbw⟩ := hrel
  by_cases hlt : k < n
  ·obtain ⟨x, hxk⟩ : ∃ x, xs[k]? = some x := ⟨xs[k]'(by rw [hn.out]; exact hlt), List.getElem?_eq_getElem _⟩
   obtain ⟨b, off, rfl, hb, hc⟩ := hx.out (fun e => by rw [e] at hxk; simp at hxk)
   obtain ⟨c0, c1, c2⟩ := (hc k x hxk).below hbw hb
   have hxs := hs.out x (List.mem_of_getElem? hxk)
   have hbwr : b < wr.heap.size := Nat.lt_of_lt_of_le hb hbw.size
   have hfv := b0w x (wr.alloc (.cells #[.int .i64 x.k, .int .i64 x.n, .string x.s] 30)) hxs
   have hgl : g < wr.heap.size := hO.out.lt
   have h63 : k + 1 ≤ maxLen := by unfold maxLen; omega
   have hby : (k + 1) * 32 ≤ 140737488355328 := by omega
   go_wp2_with (first | (go_at_call 70; refine hfv.mono ?_; rintro e w2 ⟨rfl, hb2⟩; have E2 := a0b (a0c (Below.refl wr.heap.size wr) (.cells #[.int .i64 x.k, .int .i64 x.n, .string x.s] 30)) hb2; have E3 := a0c E2 (.cells #[.int .i64 x.k, .int .i64 x.n, .string x.s] 30); have hown := (hO.out.same (E3.block g hgl)).owns (base := W.heap.size) hg; have hnews := news (W := w2.alloc (.cells #[.int .i64 x.k, .int .i64 x.n, .string x.s] 30)) (a0h w2 _); have hsz : W.heap.size ≤ (w2.alloc (.cells #[.int .i64 x.k, .int .i64 x.n, .string x.s] 30)).heap.size := Nat.le_trans hbw.size E3.size) | (at_builtin; refine wpList_append_lies _ (by rfl) _ _ _ (by rfl) W.heap.size 30 i0 _ 3 32 Tryz.underlying48 hi0 hz0 hz1 hz2 rfl (by omega) (.slice (some ⟨g, 0, none⟩) k cap) k _ (by rfl) hown ⟨w2.heap.size, 0, none⟩ 1 1 (trio x) (by rfl) (by rfl) hnews (by simp [Value.oneCell']) (by omega) h63 hby hsz _ rfl ?_; intro g3 cap3 w3 hown3 hgrow hat hlt3))
   go_roundw
   case measure => simp [intOf]; omega
   case rel =>
    have hO3 := OwnR.of hown3
    refine ⟨k + 1, g3, cap3, by omega, by go_num, rfl, ?_, hO3.2, ?_⟩
    ·rw [a3t hxk, a6a]
     exact hO3.1
    ·have hk3 := a1n.grown hgrow
     exact (((a1n.of_below (S := fun k => some k = some g) hbw).trans ((a1n.of_below (S := fun k => some k = some g) E3).mono (fun _ _ h => h))).trans hk3).below (Nat.le_refl _) (fun k hk e => by have := Option.some.inj e; omega)
  ·obtain rfl : k = n := by omega
   go_wp2
   go_ret
   refine ⟨g, cap, rfl, ?_, hg, hbw⟩
   have := hO.out
   rw [List.take_of_length_le (by rw [hn.out]; exact Nat.le_refl _)] at this
   exact this
def VQ (W : World) (R : Int ⊕ Vl) (e : Ending) (W' : World) : Prop :=
 Below W.heap.size W W' ∧ match R with
 | .inl c => e = .panicked (pan (flr c))
 | .inr v => e = .returned v.v
theorem d2g {x : Vl} (h : tm[8]?.getD undef = .pointer (some ⟨B, 0, none⟩)) (hx : W.heap[B]? = some (bx x)) : (results Tryz.f104 tm).run Tryz.prog W = .ok x.v W := by
 obtain ⟨c0, c1, c2, _, _, _⟩ := in3 hx
 simp [results, Tryz.results104, go_sem, h, c0, c1, c2]
theorem new3 (W : World) (a b c : Obj) : (((W.alloc a).alloc b).alloc c).heap[W.heap.size + 1 + 1]? = some c := by
 have := a0h ((W.alloc a).alloc b) c
 simpa using this
theorem d2h (pt : Value) (op : Int) (x y r : Vl) (W : World) (hc : ∀ w, Below W.heap.size W w → Calls Tryz.prog 122 #[.int .i64 op, x.v, y.v] w fun e w' => e = .returned (.tuple #[r.v, .int .i64 0]) ∧ Below w.heap.size w w') :
  Calls Tryz.prog 104 #[pt, .int .i64 op, x.v, y.v] W (VQ W (.inr r)) := by
 have E0 := a2p W (bx x) (bx y) (bx nilV)
 have g0 := new3 W (bx x) (bx y) (bx nilV)
 go_enter Tryz.func104, Tryz.ntmps104
 go_wp2_with (go_at_call 122; refine (hc _ E0).mono ?_; rintro e w2 ⟨rfl, hb2⟩; have g2 := a0d hb2 g0; obtain ⟨c0, c1, c2, f0, f1, f2⟩ := in3 g2; refine Hid.out ?_)
 refine Lib.hid ?_
 have hz : W.heap.size + 1 + 1 < w2.heap.size := a0n g2
 have E2 := a0b E0 hb2
 go_wp2_with (go_at_call 114; refine (a8m _).mono ?_; rintro e w' ⟨rfl, rfl⟩)
 exact bodyPost_ret (d2g (B := W.heap.size + 1 + 1) rfl (a0g _ (a0o r g2))) rfl ⟨a0c (a0r r E2 (by omega)) _, rfl⟩
theorem d2i (pt : Value) (op c : Int) (x y r : Vl) (W : World) (h0 : (c != 0) = true) (hc : ∀ w, Below W.heap.size W w → Calls Tryz.prog 122 #[.int .i64 op, x.v, y.v] w fun e w' => e = .returned (.tuple #[r.v, .int .i64 c]) ∧ Below w.heap.size w w') :
  Calls Tryz.prog 104 #[pt, .int .i64 op, x.v, y.v] W (VQ W (.inl c)) := by
 have E0 := a2p W (bx x) (bx y) (bx nilV)
 go_enter Tryz.func104, Tryz.ntmps104
 go_wp2_with (go_at_call 122; refine (hc _ E0).mono ?_; rintro e w2 ⟨rfl, hb2⟩; refine Hid.out ?_)
 refine Lib.hid ?_
 have E2 := a0b E0 hb2
 go_wp2_with (go_at_call 114; refine (a6u c _ h0).mono ?_; rintro e w' ⟨rfl, rfl⟩)
 exact ⟨rfl, a0c E2 _, rfl⟩
def opR (r : Vl × Int) : Int ⊕ Vl := if r.2 = 0 then .inr r.1 else .inl r.2
theorem c9s (hF : OpF F) (pt : Value) (op : Int) (x y : Vl) (W : World) (ht : PTab W) : Calls Tryz.prog 104 #[pt, .int .i64 op, x.v, y.v] W (VQ W (opR (F op x y))) := by
 unfold opR
 split
 ·rename_i h
  refine d2h pt op x y _ W (fun w hb => ?_)
  have := hF.c op x y w (ht.on hb)
  rw [h] at this
  exact this
 ·rename_i h
  exact d2i pt op _ x y (F op x y).1 W (by simpa using h) (fun w hb => hF.c op x y w (ht.on hb))
section
variable {w0 : World} {p : Mp} {fv : Value} {mn : Int} {s : St} {W : World}
theorem d4p {x : Od} (h : tm[2]?.getD undef = .pointer (some ⟨B, 0, none⟩)) (hx : W.heap[B]? = some (.cells #[.int .i64 x.op, .int .i64 x.a, .int .i64 x.b, .int .i64 x.c] 82)) : (results Tryz.f54 tm).run Tryz.prog W = .ok x.v W := by
 have d0 : W.cell? ⟨B, 0, none⟩ = some (.int .i64 x.op) := a0a hx rfl
 have d1 : W.cell? ⟨B, 1, none⟩ = some (.int .i64 x.a) := a0a hx rfl
 have d2 : W.cell? ⟨B, 2, none⟩ = some (.int .i64 x.b) := a0a hx rfl
 have d3 : W.cell? ⟨B, 3, none⟩ = some (.int .i64 x.c) := a0a hx rfl
 simp [results, Tryz.results54, go_sem, h, d0, d1, d2, d3]
theorem b4o (B F fc k : Nat) (b off cf : Nat) (nf : Nat) (fn pc : Nat) (ib ioff il ic : Nat) (o : Od) (W : World) (c0 : W.cell? ⟨B, 0, none⟩ = some (.slice (some ⟨b, off, none⟩) nf cf)) (c2 : W.cell? ⟨B, 2, none⟩ = some (.slice (some ⟨F, 0, none⟩) (k + 1) fc)) (hk : k ≤ 1000) (d0 : W.cell? ⟨F, k * 4, none⟩ = some (.int .i64 fn)) (d1 : W.cell? ⟨F, k * 4 + 1, none⟩ = some (.int .i64 pc)) (hfn : fn < nf) (hpc : pc < il) (e3 : W.cell? ⟨b, off + fn * 4 + 3, none⟩ = some (.slice (some ⟨ib, ioff, none⟩) il ic)) (hi : Four W ib (ioff + pc * 4) o) :
  Calls Tryz.prog 54 #[.pointer (some ⟨B, 0, none⟩)] W fun e W' => e = .returned o.v ∧ Below W.heap.size W W' := by
 have hB := World.block_lt_of_cell? _ _ c0
 have hF := World.block_lt_of_cell? _ _ d0
 have hb := World.block_lt_of_cell? _ _ e3
 obtain ⟨i0, i1, i2, i3⟩ := hi
 have hib := World.block_lt_of_cell? _ _ i0
 simp only at hB hF hb hib
 have c2' : (W.alloc (.cells #[.int .i64 0, .int .i64 0, .int .i64 0, .int .i64 0] 82)).cell? ⟨B, 2, none⟩ = some (.slice (some ⟨F, 0, none⟩) (k + 1) fc) := (World.cell?_alloc_past _ _ _ hB).trans c2
 have ht := a3s B F fc k _ c2' hk
 go_enter Tryz.func54, Tryz.ntmps54
 go_wp2_with (go_at_call 76; refine ht.mono ?_; rintro e w1 ⟨rfl, n, rfl⟩)
 go_region
 all_goals
  go_wp2
  refine bodyPost_ret (d4p (B := W.heap.size) (x := o) rfl ?_) rfl ⟨rfl, ?_⟩
  ·exact a0k _ (a0k _ (a0k _ (a0k (W := (W.alloc _).drewN (n + 1)) _ (a0h W _))))
  ·exact ((((a1q (n := n + 1) (a0c (Below.refl W.heap.size W) _)).setCell (p := ⟨W.heap.size, 0, none⟩) (Nat.le_refl _) _).setCell (p := ⟨W.heap.size, 1, none⟩) (Nat.le_refl _) _).setCell (p := ⟨W.heap.size, 2, none⟩) (Nat.le_refl _) _).setCell (p := ⟨W.heap.size, 3, none⟩) (Nat.le_refl _) _
structure b0h (w0 : World) (fv : Value) (fs : List Fd) : Prop where
 ex : ∃ a c, fv = .slice a fs.length c ∧ RowF w0.heap.size w0 a fs
theorem c9t (hp : a2i fs main = true) (hP : b0h w0 fv fs) (h : Mc w0 p fv mn s W) (hg : Good fs s) (e : s.fr = ini ++ [x]) (ho : orderAt fs x = some o) :
  Calls Tryz.prog 54 #[.pointer (some ⟨p.B, 0, none⟩)] W fun e W' => e = .returned o.v ∧ Below W.heap.size W W' := by
 obtain ⟨a, c, rfl, hR⟩ := hP.ex
 obtain ⟨f, o', hf, hq, ho', _, hk, k1, k2, k3, _⟩ := (hg.fg x (by rw [e]; simp)).order hp
 rw [ho] at ho'
 cases ho'
 obtain ⟨l, q, e1, rfl, e2, e3⟩ := h.top e
 obtain ⟨d0, d1, _, _, _⟩ := h.topCells e1
 obtain ⟨c0, _, c2, _⟩ := h.cells
 have hl : s.fr.length = l.length + 1 := by rw [e, List.length_append, e3]; rfl
 rw [hl] at c2
 have h40 := hg.n2
 have hlt := (List.getElem?_eq_some_iff.1 hf).1
 have hR' := hR.below h.bl
 obtain ⟨b, off, rfl, hb, hel⟩ := hR'.2 (fun e => by rw [e] at hlt; simp at hlt)
 obtain ⟨h1, h2, h3⟩ := hel _ _ hf
 obtain ⟨ib, ioff, e4, hib, hes⟩ := h3.2 (fun e => by have := hk.i1; rw [e] at this; simp at this)
 have e5 := h1.i
 rw [e4] at e5
 obtain ⟨fn, hfn⟩ : ∃ fn : Nat, q.x.f = fn := ⟨q.x.f.toNat, by omega⟩
 obtain ⟨pc, hpc⟩ : ∃ pc : Nat, q.x.pc = pc := ⟨q.x.pc.toNat, by omega⟩
 rw [hfn] at d0 hlt hf e5
 rw [hpc] at d1 hq k3
 simp only [Int.toNat_natCast] at hlt e5 hq
 exact b4o p.B p.F p.fc l.length b off c fs.length fn pc ib ioff f.is.length f.ic o W c0 c2 (by omega) d0 d1 hlt (by omega) e5 (hes pc o hq)
end
theorem b1u (pt : Value) (k n : Int) (t : ByteArray) (W : World) (hk : (k != 4) = true) : Calls Tryz.prog 116 #[pt, .agg #[.int .i64 k, .int .i64 n, .string t]] W fun e W' => e = .panicked (pan (flr 3)) ∧ W' = W.alloc (box k n t) := by
 go_enter Tryz.func116, Tryz.ntmps116
 go_wp2_with (go_at_call 97; refine (a8d 3 _ rfl).mono ?_; rintro e w' ⟨rfl, rfl⟩)
 exact ⟨rfl, rfl, rfl⟩
theorem a5k (B T tc nt i : Nat) (t : ByteArray) (W : World) (c3 : W.cell? ⟨B, 3, none⟩ = some (.slice (some ⟨T, 0, none⟩) nt tc)) (hi : i < nt) (_hn : nt ≤ 1000) :
  Calls Tryz.prog 116 #[.pointer (some ⟨B, 0, none⟩), .agg #[.int .i64 4, .int .i64 (i : Nat), .string t]] W fun e W' => e = .returned (.pointer (some ⟨T, i * 2, none⟩)) ∧ Below W.heap.size W W' := by
 have hB := World.block_lt_of_cell? _ _ c3
 simp only at hB
 go_enter Tryz.func116, Tryz.ntmps116
 go_wp2_with (go_at_call 97; refine (a4t 3 _).mono ?_; rintro e w' ⟨rfl, rfl⟩)
 go_region
 all_goals
  go_wp2
  go_ret
  exact ⟨rfl, a1q (n := 1) (a0c (Below.refl W.heap.size W) _)⟩
theorem a1k (hm : n₀ ≤ m) {v : Value} (r : Row n₀ A v xs) : Row m A v xs := by
 obtain ⟨a, cap, e, hl, hx⟩ := r
 refine ⟨a, cap, e, hl, fun hne => ?_⟩
 obtain ⟨b, off, ea, hb, hc⟩ := hx hne
 exact ⟨b, off, ea, by omega, hc⟩
theorem d4q {x : Vl} (h : tm[6]?.getD undef = .pointer (some ⟨B, 0, none⟩)) (hx : W.heap[B]? = some (bx x)) : (results Tryz.f99 tm).run Tryz.prog W = .ok x.v W := by
 obtain ⟨c0, c1, c2, _, _, _⟩ := in3 hx
 simp [results, Tryz.results99, go_sem, h, c0, c1, c2]
structure TabA (T : Nat) (v : Vl) (W : World) (e : Ending) (W' : World) : Prop where
 b : Below W.heap.size W W'
 w : (¬ v.k = 4 ∧ e = .panicked (pan (flr 3))) ∨ (v.k = 4 ∧ e = .returned (.pointer (some ⟨T, v.n.toNat * 2, none⟩)))
theorem b3c (B T tc nt : Nat) (v : Vl) (W : World) (c3 : W.cell? ⟨B, 3, none⟩ = some (.slice (some ⟨T, 0, none⟩) nt tc)) (hv : v.k = 4 → 0 ≤ v.n ∧ v.n.toNat < nt) (hn : nt ≤ 1000) :
  Calls Tryz.prog 116 #[.pointer (some ⟨B, 0, none⟩), v.v] W (TabA T v W) := by
 obtain ⟨k, n, t, _, _, _⟩ := v
 by_cases hk : k = 4
 ·subst hk
  obtain ⟨h0, h1⟩ := hv rfl
  simp only at h0 h1
  obtain ⟨i, rfl⟩ : ∃ i : Nat, n = i := ⟨n.toNat, by omega⟩
  simp only [Int.toNat_natCast] at h1
  exact (a5k B T tc nt i t W c3 h1 hn).mono fun e W' ⟨a, b⟩ => ⟨b, .inr ⟨rfl, by rw [a]; simp⟩⟩
 ·exact (b1u _ k n t W (by simpa using hk)).mono fun e W' ⟨a, b⟩ => ⟨by rw [b]; exact a0c (Below.refl _ _) _, .inl ⟨hk, a⟩⟩
theorem c5i (B T tc nt : Nat) (v y : Vl) (R : Int ⊕ Vl) (t : Tb) (ks vs : Value) (W : World) (c3 : W.cell? ⟨B, 3, none⟩ = some (.slice (some ⟨T, 0, none⟩) nt tc)) (hv : v.k = 4 → 0 ≤ v.n ∧ v.n.toNat < nt) (hn : nt ≤ 1000) (hd : v.k = 4 → W.cell? ⟨T, v.n.toNat * 2, none⟩ = some ks ∧ W.cell? ⟨T, v.n.toNat * 2 + 1, none⟩ = some vs ∧ Tab W.heap.size W ks vs t.ks t.vs) (hR : R = if v.k = 4 then .inr (getT t.ks t.vs y) else .inl 3) :
  Calls Tryz.prog 99 #[.pointer (some ⟨B, 0, none⟩), v.v, y.v] W (VQ W R) := by
 have hB := World.block_lt_of_cell? _ _ c3
 simp only at hB
 obtain ⟨r, hr⟩ := exq (getT t.ks t.vs y)
 rw [hr] at hR
 obtain ⟨w1, hw1⟩ := exq (((W.alloc (.cells #[.int .i64 v.k, .int .i64 v.n, .string v.s] 30)).alloc (.cells #[.int .i64 y.k, .int .i64 y.n, .string y.s] 30)).alloc (.cells #[.int .i64 0, .int .i64 0, .string ⟨#[]⟩] 30))
 have E0 : Below W.heap.size W w1 := by rw [← hw1]; exact a2p W _ _ _
 have g0 : w1.heap[W.heap.size + 1 + 1]? = some (bx nilV) := by rw [← hw1]; exact new3 W _ _ _
 have g1 : w1.heap[W.heap.size + 1]? = some (bx y) := by rw [← hw1]; refine a0g _ ?_; have := a0h (W.alloc (.cells #[.int .i64 v.k, .int .i64 v.n, .string v.s] 30)) (bx y); simpa using this
 have g2 : w1.heap[W.heap.size]? = some (bx v) := by rw [← hw1]; exact a0g _ (a0g _ (a0h _ _))
 replace c3 := (E0.cell (p := ⟨B, 3, none⟩) hB).trans c3
 obtain ⟨b0, b1, b2, _, _, _⟩ := in3 g1
 obtain ⟨p0, p1, p2, _, _, _⟩ := in3 g2
 have hz := a0n g0
 have hcl := fun w2 (hb : Below w1.heap.size w1 w2) => b3c B T tc nt v w2 ((hb.cell (p := ⟨B, 3, none⟩) (by show B < _; omega)).trans c3) hv hn
 have hTw : v.k = 4 → ∀ w2, Below w1.heap.size w1 w2 → w2.cell? ⟨T, v.n.toNat * 2, none⟩ = some ks ∧ w2.cell? ⟨T, v.n.toNat * 2 + 1, none⟩ = some vs ∧ Calls Tryz.prog 115 #[.agg #[ks, vs], y.v] w2 fun e w' => e = .returned r.v ∧ Below w2.heap.size w2 w' := fun h4 w2 hb => by
  obtain ⟨d0, d1, hT⟩ := hd h4
  have hE := a0b E0 hb
  refine ⟨(hE.cell (p := ⟨T, v.n.toNat * 2, none⟩) (World.block_lt_of_cell? _ _ d0)).trans d0, (hE.cell (p := ⟨T, v.n.toNat * 2 + 1, none⟩) (World.block_lt_of_cell? _ _ d1)).trans d1, ?_⟩
  have := c8j ks vs t.ks t.vs y w2 (by
   have h2 := hT.below hE
   exact ⟨a1k hE.size h2.keys, a1k hE.size h2.vals⟩)
  rw [hr] at this
  exact this
 clear hd hr
 clear g2
 replace hTw : Hid _ := hTw
 replace hcl : Hid _ := hcl
 replace hR : Hid _ := hR
 go_enter Tryz.func99, Tryz.ntmps99
 go_wp2
 go_region_with (first | (go_at_call 116; refine (hcl.out _ (a0i (Below.refl _ _))).mono ?_; rintro e w2 ⟨hb2, (⟨h4, rfl⟩ | ⟨h4, rfl⟩)⟩; (exact ⟨rfl, a0b (a0i E0) hb2, by rw [hR.out, if_neg h4]⟩); obtain ⟨d0, d1, hg⟩ := hTw.out h4 w2 (a0b (a0i (Below.refl w1.heap.size w1)) hb2); obtain ⟨q0, q1, q2, _, _, _⟩ := in3 (a0d (a0b (a0i (Below.refl w1.heap.size w1)) hb2) g1)) | (go_at_call 115; refine hg.mono ?_; rintro e w3 ⟨rfl, hb3⟩; have g3 := a0d hb3 (a0d (a0b (a0i (Below.refl w1.heap.size w1)) hb2) g0); obtain ⟨a0, a1, a2, f0, f1, f2⟩ := in3 g3))
 all_goals
  go_wp2
  exact bodyPost_ret (d4q (B := W.heap.size + 1 + 1) rfl (a0o r g3)) rfl ⟨a0r r (a0b (a0b (a0i E0) hb2) hb3) (by omega), by rw [hR.out, if_pos h4]⟩
def RowS (n₀ : Nat) (W : World) (sv : Value) (ts : List ByteArray) : Prop :=
 ∃ (a : Option Addr) (cap : Nat), sv = .slice a ts.length cap ∧ ts.length ≤ maxLen ∧ (ts ≠ [] → ∃ b off, a = some ⟨b, off, none⟩ ∧ b < n₀ ∧ ∀ j t, ts[j]? = some t → W.cell? ⟨b, off + j, none⟩ = some (.string t))
def FrAt (n₀ : Nat) (W : World) (b o : Nat) (x : Frm) : Prop :=
 W.cell? ⟨b, o, none⟩ = some (.int .i64 x.f) ∧ W.cell? ⟨b, o + 1, none⟩ = some (.int .i64 x.pc) ∧ W.cell? ⟨b, o + 2, none⟩ = some (.int .i64 x.d) ∧ ∃ rv, W.cell? ⟨b, o + 3, none⟩ = some rv ∧ Row n₀ W rv x.rs
def b1v (n₀ : Nat) (W : World) (sv : Value) (xs : List Frm) : Prop :=
 ∃ (a : Option Addr) (cap : Nat), sv = .slice a xs.length cap ∧ xs.length ≤ maxLen ∧ (xs ≠ [] → ∃ b off, a = some ⟨b, off, none⟩ ∧ b < n₀ ∧ ∀ j x, xs[j]? = some x → FrAt n₀ W b (off + j * 4) x)
theorem FrAt.below {B : World} (h : Below n₀ A B) {b o : Nat} (hb : b < n₀) (t : FrAt n₀ A b o x) : FrAt n₀ B b o x := by
 obtain ⟨t0, t1, t2, rv, t3, hr⟩ := t
 exact ⟨(h.cell (p := ⟨b, o, none⟩) hb).trans t0, (h.cell (p := ⟨b, o + 1, none⟩) hb).trans t1, (h.cell (p := ⟨b, o + 2, none⟩) hb).trans t2, rv, (h.cell (p := ⟨b, o + 3, none⟩) hb).trans t3, hr.below h⟩
theorem c0y (sv : Value) (ts : List ByteArray) (W : World) (hr : RowS W.heap.size W sv ts) (hl : ts.length ≤ 60000) (hs : ∀ t ∈ ts, t.size ≤ 300) :
  Calls Tryz.prog 73 #[sv, .func (.func 74) #[] #[]] W fun e W' => ∃ g cap, e = .returned (.slice (some ⟨g, 0, none⟩) ts.length cap) ∧ OwnR W' g 9 1 ts.length cap (ts.map Value.string) ∧ W.heap.size ≤ g ∧ Below W.heap.size W W' := by
 obtain ⟨a, cp, rfl, _, hx⟩ := hr
 obtain ⟨n, hn⟩ := exq (ts.length)
 rw [hn] at hl ⊢
 obtain ⟨mc, hmk, hms⟩ := a9d 27 9 _ 1 16 n Tryz.underlying27 c0x (by omega) (by omega) (by omega)
 obtain ⟨i0, hi0, hz0, hz1, hz2⟩ := a1h c0x
 replace hn : Hid _ := hn
 replace hx : Hid _ := hx
 replace hs : Hid _ := hs
 go_enter Tryz.func73, Tryz.ntmps73
 go_wp2
 go_loopw [5, 13] (fun t i wr => ∃ k g cap : Nat, k ≤ n ∧ i = .int .i64 (k : Nat) ∧ t = .slice (some ⟨g, 0, none⟩) k cap ∧ Hid (OwnR wr g 9 1 k cap ((ts.take k).map Value.string)) ∧ W.heap.size ≤ g ∧ Below W.heap.size W wr) (fun _ i _ => n - (intOf i).toNat)
 case atStart => exact ⟨0, W.heap.size, n, Nat.zero_le _, rfl, rfl, OwnR.made hms (by omega), Nat.le_refl _, a0c (Below.refl _ _) _⟩
 case round =>
  obtain ⟨k, g, cap, hk, rfl, rfl, hO, hg, hbw⟩ := hrel
  by_cases hlt : k < n
  ·obtain ⟨x, hxk⟩ : ∃ x, ts[k]? = some x := ⟨ts[k]'(by rw [hn.out]; exact hlt), List.getElem?_eq_getElem _⟩
   obtain ⟨b, off, rfl, hb, hc⟩ := hx.out (fun e => by rw [e] at hxk; simp at hxk)
   have c0 := (hbw.cell (p := ⟨b, off + k, none⟩) hb).trans (hc k x hxk)
   have hxs := hs.out x (List.mem_of_getElem? hxk)
   have hbwr : b < wr.heap.size := Nat.lt_of_lt_of_le hb hbw.size
   have hfv := fun w => b3b x w hxs
   have hgl : g < wr.heap.size := hO.out.lt
   have h63 : k + 1 ≤ maxLen := by unfold maxLen; omega
   have hby : (k + 1) * 16 ≤ 140737488355328 := by omega
   have hnw : ∀ (u : World) (j : Nat) (y : Value), [Value.string x][j]? = some y → (u.alloc (.cells #[.string x] 9)).cell? ((⟨u.heap.size, 0, none⟩ : Addr).add j) = some y := fun u j y hy => by
    match j, hy with
    | 0, hy => cases hy; exact a0a (i := 0) (a0h u _) rfl
    | j + 1, hy => simp at hy
   go_wp2_with (first | (go_at_call 74; refine (hfv _).mono ?_; rintro e w2 ⟨rfl, E2⟩; have E3 := a0c E2 (.cells #[.string x] 9); have hown := (hO.out.same (E3.block g hgl)).owns (base := W.heap.size) hg; have hnews := hnw w2; have hsz : W.heap.size ≤ (w2.alloc (.cells #[.string x] 9)).heap.size := Nat.le_trans hbw.size E3.size) | (at_builtin; refine wpList_append_lies _ (by rfl) _ _ _ (by rfl) W.heap.size 9 i0 _ 1 16 Tryz.underlying27 hi0 hz0 hz1 hz2 rfl (by omega) (.slice (some ⟨g, 0, none⟩) k cap) k _ (by rfl) hown ⟨w2.heap.size, 0, none⟩ 1 1 [Value.string x] (by rfl) (by rfl) hnews (by simp [Value.oneCell']) (by omega) h63 hby hsz _ rfl ?_; intro g3 cap3 w3 hown3 hgrow hat hlt3))
   go_roundw
   case measure => simp [intOf]; omega
   case rel =>
    have hO3 := OwnR.of hown3
    refine ⟨k + 1, g3, cap3, by omega, by go_num, rfl, ?_, hO3.2, ?_⟩
    ·rw [a3t hxk, List.map_append]
     exact hO3.1
    ·have hk3 := a1n.grown hgrow
     exact (((a1n.of_below (S := fun k => some k = some g) hbw).trans ((a1n.of_below (S := fun k => some k = some g) E3).mono (fun _ _ h => h))).trans hk3).below (Nat.le_refl _) (fun k hk e => by have := Option.some.inj e; omega)
  ·obtain rfl : k = n := by omega
   go_wp2
   go_ret
   refine ⟨g, cap, rfl, ?_, hg, hbw⟩
   have := hO.out
   rw [List.take_of_length_le (by rw [hn.out]; exact Nat.le_refl _)] at this
   exact this
theorem d4r {a b c : Value} (h : tm[2]?.getD undef = .pointer (some ⟨B, 0, none⟩)) (hx : W.heap[B]? = some (.cells #[a, b, c, d] 50)) : (results Tryz.f68 tm).run Tryz.prog W = .ok (.agg #[a, b, c, d]) W := by
 have d0 : W.cell? ⟨B, 0, none⟩ = some a := a0a hx rfl
 have d1 : W.cell? ⟨B, 1, none⟩ = some b := a0a hx rfl
 have d2 : W.cell? ⟨B, 2, none⟩ = some c := a0a hx rfl
 have d3 : W.cell? ⟨B, 3, none⟩ = some d := a0a hx rfl
 simp [results, Tryz.results68, go_sem, h, d0, d1, d2, d3]
theorem b7h (x : Frm) (rv : Value) (W : World) (hr : Row W.heap.size W rv x.rs) (hl : x.rs.length ≤ 1000) (hs : ∀ v ∈ x.rs, v.s.size ≤ 300) :
  Calls Tryz.prog 68 #[.agg #[.int .i64 x.f, .int .i64 x.pc, .int .i64 x.d, rv]] W fun e W' => ∃ g cap, e = .returned (.agg #[.int .i64 x.f, .int .i64 x.pc, .int .i64 x.d, .slice (some ⟨g, 0, none⟩) x.rs.length cap]) ∧ OwnR W' g 30 3 x.rs.length cap (flat x.rs) ∧ W.heap.size ≤ g ∧ Below W.heap.size W W' := by
 obtain ⟨a, cp, hrv, _⟩ := id hr
 have E0 := a0c (a0c (Below.refl W.heap.size W) (.cells #[.int .i64 x.f, .int .i64 x.pc, .int .i64 x.d, rv] 50)) (.cells #[.int .i64 0, .int .i64 0, .int .i64 0, .slice none 0 0] 50)
 have g0 : ((W.alloc (.cells #[.int .i64 x.f, .int .i64 x.pc, .int .i64 x.d, rv] 50)).alloc (.cells #[.int .i64 0, .int .i64 0, .int .i64 0, .slice none 0 0] 50)).heap[W.heap.size]? = some (.cells #[.int .i64 x.f, .int .i64 x.pc, .int .i64 x.d, rv] 50) := a0g _ (a0h _ _)
 have g1 := a6w W (.cells #[.int .i64 x.f, .int .i64 x.pc, .int .i64 x.d, rv] 50) (.cells #[.int .i64 0, .int .i64 0, .int .i64 0, .slice none 0 0] 50)
 have hev := a9z rv x.rs _ (a1k E0.size (hr.below E0)) hl hs
 subst hrv
 obtain ⟨n, hn⟩ := exq (x.rs.length)
 rw [hn] at hev g0 g1 E0 ⊢
 clear hr hl hs hn
 go_enter Tryz.func68, Tryz.ntmps68
 go_wp2_with (go_at_call 69; refine hev.mono ?_; rintro e w2 ⟨g, cap, rfl, hO, hg, hb2⟩; refine Hid.out ?_)
 refine Lib.hid ?_
 have G0 := a0d hb2 g0
 have G1 := a0d hb2 g1
 have hz : W.heap.size + 1 < w2.heap.size := a0n G1
 have a0 := a0a (i := 0) G0 rfl
 have a1 := a0a (i := 1) G0 rfl
 have a2 := a0a (i := 2) G0 rfl
 have a3 := a0a (i := 3) G0 rfl
 have b0 := a0a (i := 0) G1 rfl
 have b1 := a0a (i := 1) G1 rfl
 have b2 := a0a (i := 2) G1 rfl
 have b3 := a0a (i := 3) G1 rfl
 have f3 := a0e (i := 3) G0
 have z0 := a0e (i := 0) G1
 have z1 := a0e (i := 1) G1
 have z2 := a0e (i := 2) G1
 have z3 := a0e (i := 3) G1
 have hg2 : W.heap.size + 1 < g := by have := hg; simp at this; omega
 have e2 : (w2.setCell ⟨W.heap.size, 3, none⟩ (.slice (some ⟨g, 0, none⟩) n cap)).heap[W.heap.size + 1]? = _ := (a0f _ _ (by omega)).trans G1
 have E2 : Below W.heap.size W (w2.setCell ⟨W.heap.size, 3, none⟩ (.slice (some ⟨g, 0, none⟩) n cap)) := (a0b E0 hb2).setCell (p := ⟨W.heap.size, 3, none⟩) (Nat.le_refl _) _
 have hO2 : OwnR (w2.setCell ⟨W.heap.size, 3, none⟩ (.slice (some ⟨g, 0, none⟩) n cap)) g 30 3 n cap (flat x.rs) := hO.same (a0f _ _ (by omega))
 go_wp2
 refine bodyPost_ret (d4r (B := W.heap.size + 1) rfl (a0k _ (a0k _ (a0k _ (a0k _ e2))))) rfl ⟨g, cap, rfl, ?_, by omega, ?_⟩
 ·exact hO2.same ((a0f _ _ (by omega)).trans ((a0f _ _ (by omega)).trans ((a0f _ _ (by omega)).trans (a0f _ _ (by omega)))))
 ·exact (((E2.setCell (p := ⟨W.heap.size + 1, 0, none⟩) (Nat.le_succ _) _).setCell (p := ⟨W.heap.size + 1, 1, none⟩) (Nat.le_succ _) _).setCell (p := ⟨W.heap.size + 1, 2, none⟩) (Nat.le_succ _) _).setCell (p := ⟨W.heap.size + 1, 3, none⟩) (Nat.le_succ _) _
structure FI (lo : Nat) (W : World) (g : Nat) (fw : List Fw) : Prop where
 rg : ∀ q ∈ fw, OwnR W q.g 30 3 q.x.rs.length q.c (flat q.x.rs)
 lo : ∀ q ∈ fw, lo ≤ q.g ∧ q.g ≠ g
 nd : (fw.map Fw.g).Nodup
theorem FI.nil (lo : Nat) (W : World) (g : Nat) : FI lo W g [] := ⟨by simp, by simp, by simp⟩
theorem FI.snoc {U : World} {g3 : Nat} {fw : List Fw} (h : FI lo W g fw) (hg : g < W.heap.size) (hb : Below W.heap.size W U) (hgr : U.grownBy w3 (some g)) (hat : g = g3 ∨ g3 = U.heap.size) {q : Fw} (hq : OwnR U q.g 30 3 q.x.rs.length q.c (flat q.x.rs)) (hql : W.heap.size ≤ q.g) (hlo : lo ≤ W.heap.size) : FI lo w3 g3 (fw ++ [q]) := by
 have hne : ∀ z ∈ fw, z.g < W.heap.size := fun z hz => (h.rg z hz).lt
 have hsz := hb.size
 have hql2 := hq.lt
 have hk : ∀ k, k < U.heap.size → k ≠ g → w3.heap[k]? = U.heap[k]? := fun k hk hn => hgr.block k hk (fun e => hn (Option.some.inj e))
 refine ⟨fun z hz => ?_, fun z hz => ?_, ?_⟩
 ·rcases List.mem_append.1 hz with hz | hz
  ·have h1 := hne z hz
   exact ((h.rg z hz).same (hb.block _ h1)).same (hk _ (by omega) (h.lo z hz).2)
  ·simp only [List.mem_singleton] at hz
   subst hz
   exact hq.same (hk _ hql2 (by omega))
 ·rcases List.mem_append.1 hz with hz | hz
  ·have h1 := hne z hz
   refine ⟨(h.lo z hz).1, fun e => ?_⟩
   rcases hat with e2 | e2
   ·exact (h.lo z hz).2 (by omega)
   ·omega
  ·simp only [List.mem_singleton] at hz
   subst hz
   refine ⟨by omega, fun e => ?_⟩
   rcases hat with e2 | e2 <;> omega
 ·rw [List.map_append, List.nodup_append]
  refine ⟨h.nd, by simp, fun a ha b hb' => ?_⟩
  obtain ⟨z, hz, rfl⟩ := List.mem_map.1 ha
  simp at hb'
  subst hb'
  have := hne z hz
  omega
theorem c0z (sv : Value) (xs : List Frm) (W : World) (hr : b1v W.heap.size W sv xs) (hl : xs.length ≤ 40) (hrl : ∀ x ∈ xs, x.rs.length ≤ 1000) (hs : ∀ x ∈ xs, ∀ v ∈ x.rs, v.s.size ≤ 300) :
  Calls Tryz.prog 67 #[sv, .func (.func 68) #[] #[]] W fun e W' => ∃ g cap fw, e = .returned (.slice (some ⟨g, 0, none⟩) xs.length cap) ∧ OwnR W' g 50 4 xs.length cap (a0p fw) ∧ fw.map Fw.x = xs ∧ FI W.heap.size W' g fw ∧ W.heap.size ≤ g ∧ Below W.heap.size W W' := by
 obtain ⟨a, cp, rfl, _, hx⟩ := hr
 obtain ⟨n, hn⟩ := exq (xs.length)
 rw [hn] at hl ⊢
 obtain ⟨mc, hmk, hms⟩ := a9d 25 50 _ 4 48 n Tryz.underlying25 b0v (by omega) (by omega) (by omega)
 obtain ⟨i0, hi0, hz0, hz1, hz2⟩ := a1h b0v
 replace hn : Hid _ := hn
 replace hx : Hid _ := hx
 replace hs : Hid _ := hs
 replace hrl : Hid _ := hrl
 go_enter Tryz.func67, Tryz.ntmps67
 go_wp2
 go_loopw [5, 13] (fun t i wr => ∃ (k g cap : Nat) (fw : List Fw), k ≤ n ∧ i = .int .i64 (k : Nat) ∧ t = .slice (some ⟨g, 0, none⟩) k cap ∧ Hid (OwnR wr g 50 4 k cap (a0p fw) ∧ fw.map Fw.x = xs.take k ∧ FI W.heap.size wr g fw) ∧ W.heap.size ≤ g ∧ Below W.heap.size W wr) (fun _ i _ => n - (intOf i).toNat)
 case atStart => exact ⟨0, W.heap.size, n, [], Nat.zero_le _, rfl, rfl, ⟨OwnR.made hms (by omega), by simp, FI.nil _ _ _⟩, Nat.le_refl _, a0c (Below.refl _ _) _⟩
 case round =>
  obtain ⟨k, g, cap, fw, hk, rfl, rfl, hO, hg, hbw⟩ := hrel
  by_cases hlt : k < n
  ·obtain ⟨x, hxk⟩ : ∃ x, xs[k]? = some x := ⟨xs[k]'(by rw [hn.out]; exact hlt), List.getElem?_eq_getElem _⟩
   obtain ⟨b, off, rfl, hb, hc⟩ := hx.out (fun e => by rw [e] at hxk; simp at hxk)
   obtain ⟨c0, c1, c2, rv, c3, hrow⟩ := (hc k x hxk).below hbw hb
   have hmem := List.mem_of_getElem? hxk
   have hbwr : b < wr.heap.size := Nat.lt_of_lt_of_le hb hbw.size
   have hb0 := a0c (Below.refl wr.heap.size wr) (.cells #[.int .i64 x.f, .int .i64 x.pc, .int .i64 x.d, rv] 50)
   have hfv := b7h x rv (wr.alloc (.cells #[.int .i64 x.f, .int .i64 x.pc, .int .i64 x.d, rv] 50)) (a1k (by rw [World.size_alloc]; have := hbw.size; omega) (hrow.below (hb0.mono hbw.size))) (hrl.out x hmem) (hs.out x hmem)
   have hgl : g < wr.heap.size := hO.out.1.lt
   have h63 : k + 1 ≤ maxLen := by unfold maxLen; omega
   have hby : (k + 1) * 48 ≤ 140737488355328 := by omega
   obtain ⟨ra, rc, hrv, _⟩ := id hrow
   subst hrv
   obtain ⟨m, hm⟩ := exq (x.rs.length)
   rw [hm] at hfv c3 hb0
   replace hm : Hid _ := hm
   clear hrow
   have hnw : ∀ (u : World) (gq cq : Nat) (j : Nat) (y : Value), [Value.int .i64 x.f, Value.int .i64 x.pc, Value.int .i64 x.d, Value.slice (some ⟨gq, 0, none⟩) m cq][j]? = some y → (u.alloc (.cells #[.int .i64 x.f, .int .i64 x.pc, .int .i64 x.d, .slice (some ⟨gq, 0, none⟩) m cq] 50)).cell? ((⟨u.heap.size, 0, none⟩ : Addr).add j) = some y := fun u gq cq j y hy => by
    match j, hy with
    | 0, hy => cases hy; exact a0a (i := 0) (a0h u _) rfl
    | 1, hy => cases hy; exact a0a (i := 1) (a0h u _) rfl
    | 2, hy => cases hy; exact a0a (i := 2) (a0h u _) rfl
    | 3, hy => cases hy; exact a0a (i := 3) (a0h u _) rfl
    | j + 4, hy => simp at hy
   go_wp2_with (first | (go_at_call 68; refine hfv.mono ?_; rintro e w2 ⟨gq, cq, rfl, hOq, hgq, hb2⟩; have E2 := a0b hb0 hb2; have E3 := a0c E2 (.cells #[.int .i64 x.f, .int .i64 x.pc, .int .i64 x.d, .slice (some ⟨gq, 0, none⟩) m cq] 50); have hown := (hO.out.1.same (E3.block g hgl)).owns (base := W.heap.size) hg; have hnews := hnw w2 gq cq; have hsz : W.heap.size ≤ (w2.alloc (.cells #[.int .i64 x.f, .int .i64 x.pc, .int .i64 x.d, .slice (some ⟨gq, 0, none⟩) m cq] 50)).heap.size := Nat.le_trans hbw.size E3.size) | (at_builtin; refine wpList_append_lies _ (by rfl) _ _ _ (by rfl) W.heap.size 50 i0 _ 4 48 Tryz.underlying25 hi0 hz0 hz1 hz2 rfl (by omega) (.slice (some ⟨g, 0, none⟩) k cap) k _ (by rfl) hown ⟨w2.heap.size, 0, none⟩ 1 1 [Value.int .i64 x.f, Value.int .i64 x.pc, Value.int .i64 x.d, Value.slice (some ⟨gq, 0, none⟩) m cq] (by rfl) (by rfl) hnews (by simp [Value.oneCell']) (by omega) h63 hby hsz _ rfl ?_; intro g3 cap3 w3 hown3 hgrow hat hlt3))
   go_roundw
   case measure => simp [intOf]; omega
   case rel =>
    have hO3 := OwnR.of hown3
    obtain ⟨o1, o2, o3⟩ := hO.out
    have hat' : g = g3 ∨ g3 = (w2.alloc (.cells #[.int .i64 x.f, .int .i64 x.pc, .int .i64 x.d, .slice (some ⟨gq, 0, none⟩) m cq] 50)).heap.size := by
     rcases hat with e | e
     ·exact .inl (Option.some.inj e)
     ·exact .inr e
    have hOq' : OwnR (w2.alloc (.cells #[.int .i64 x.f, .int .i64 x.pc, .int .i64 x.d, .slice (some ⟨gq, 0, none⟩) m cq] 50)) gq 30 3 x.rs.length cq (flat x.rs) := by rw [hm.out]; exact hOq.same (Below.heap_alloc _ _ _ hOq.lt)
    refine ⟨k + 1, g3, cap3, fw ++ [⟨x, gq, cq⟩], by omega, by go_num, rfl, ⟨?_, ?_, ?_⟩, hO3.2, ?_⟩
    ·rw [a0u]
     have := hO3.1
     rw [← hm.out] at this
     simpa [a0p] using this
    ·rw [a3t hxk, List.map_append, o2]; rfl
    ·exact o3.snoc hgl E3 hgrow hat' (q := ⟨x, gq, cq⟩) hOq' (by have := hgq; rw [World.size_alloc] at this; show wr.heap.size ≤ gq; omega) hbw.size
    ·have hk3 := a1n.grown hgrow
     exact (((a1n.of_below (S := fun k => some k = some g) hbw).trans ((a1n.of_below (S := fun k => some k = some g) E3).mono (fun _ _ h => h))).trans hk3).below (Nat.le_refl _) (fun k hk e => by have := Option.some.inj e; omega)
  ·obtain rfl : k = n := by omega
   go_wp2
   go_ret
   obtain ⟨o1, o2, o3⟩ := hO.out
   rw [List.take_of_length_le (by rw [hn.out]; exact Nat.le_refl _)] at o2
   exact ⟨g, cap, fw, rfl, o1, o2, o3, hg, hbw⟩
def TbAt (n₀ : Nat) (W : World) (b o : Nat) (x : Tb) : Prop := ∃ kv vv, W.cell? ⟨b, o, none⟩ = some kv ∧ W.cell? ⟨b, o + 1, none⟩ = some vv ∧ Row n₀ W kv x.ks ∧ Row n₀ W vv x.vs
def b0a (n₀ : Nat) (W : World) (sv : Value) (xs : List Tb) : Prop :=
 ∃ (a : Option Addr) (cap : Nat), sv = .slice a xs.length cap ∧ xs.length ≤ maxLen ∧ (xs ≠ [] → ∃ b off, a = some ⟨b, off, none⟩ ∧ b < n₀ ∧ ∀ j x, xs[j]? = some x → TbAt n₀ W b (off + j * 2) x)
theorem TbAt.below {B : World} (h : Below n₀ A B) {b o : Nat} {x : Tb} (hb : b < n₀) (t : TbAt n₀ A b o x) : TbAt n₀ B b o x := by
 obtain ⟨kv, vv, t0, t1, hr, hr'⟩ := t
 exact ⟨kv, vv, (h.cell (p := ⟨b, o, none⟩) hb).trans t0, (h.cell (p := ⟨b, o + 1, none⟩) hb).trans t1, hr.below h, hr'.below h⟩
theorem a2k {rs : List Vl} (hi : rs[i]? = some v) : (flat rs)[i * 3]? = some (.int .i64 v.k) ∧ (flat rs)[i * 3 + 1]? = some (.int .i64 v.n) ∧ (flat rs)[i * 3 + 2]? = some (.string v.s) := by
 induction rs generalizing i with
 | nil => simp at hi
 | cons x xs ih =>
  have e : flat (x :: xs) = .int .i64 x.k :: .int .i64 x.n :: .string x.s :: flat xs := by simp [flat]
  rw [e]
  cases i with
  | zero => simp at hi; subst hi; simp
  | succ i =>
   rw [show (i + 1) * 3 = i * 3 + 1 + 1 + 1 by omega]
   simp only [List.getElem?_cons_succ] at hi ⊢
   exact ih hi
def RwG (lo : Nat) (W : World) (g : Nat) (sv : Value) (xs : List Vl) : Prop :=
 ∃ (a : Option Addr) (cap : Nat), sv = .slice a xs.length cap ∧ xs.length ≤ maxLen ∧ (xs ≠ [] → ∃ b off, a = some ⟨b, off, none⟩ ∧ lo ≤ b ∧ b ≠ g ∧ b < W.heap.size ∧ ∀ j x, xs[j]? = some x → a1m W b (off + j * 3) x)
theorem RwG.of {h : Nat} (hO : OwnR W g 30 3 xs.length cap (flat xs)) (hl : lo ≤ g) (hne : g ≠ h) : RwG lo W h (.slice (some ⟨g, 0, none⟩) xs.length cap) xs := by
 have hcap : xs.length ≤ maxLen := by
  obtain ⟨_, _, _, h1, h2, _⟩ := hO
  omega
 refine ⟨some ⟨g, 0, none⟩, cap, rfl, hcap, fun _ => ⟨g, 0, rfl, hl, hne, hO.lt, fun j x hx => ?_⟩⟩
 obtain ⟨e0, e1, e2⟩ := a2k hx
 rw [Nat.zero_add]
 exact ⟨(hO.cell e0).1, (hO.cell e1).1, (hO.cell e2).1⟩
theorem RwG.keep {lo' : Nat} {g' : Nat} (h : RwG lo W g sv xs) (hlo : lo' ≤ lo) (hk : ∀ b, lo ≤ b → b < W.heap.size → b ≠ g → W'.heap[b]? = W.heap[b]? ∧ b ≠ g') (hs : W.heap.size ≤ W'.heap.size) : RwG lo' W' g' sv xs := by
 obtain ⟨a, cap, e, hl, hx⟩ := h
 refine ⟨a, cap, e, hl, fun hne => ?_⟩
 obtain ⟨b, off, ea, h1, h2, h3, hc⟩ := hx hne
 obtain ⟨k1, k2⟩ := hk b h1 h3 h2
 refine ⟨b, off, ea, by omega, k2, by omega, fun j x hj => ?_⟩
 obtain ⟨t1, t2, t3⟩ := hc j x hj
 exact ⟨(World.cell?_of_block (a := ⟨b, _, none⟩) k1).trans t1, (World.cell?_of_block (a := ⟨b, _, none⟩) k1).trans t2, (World.cell?_of_block (a := ⟨b, _, none⟩) k1).trans t3⟩
theorem k2' {w : World} {o : Nat} {p q : Value} (h : c ≠ B) : ((w.setCell ⟨B, 0, none⟩ p).setCell ⟨B, 1, none⟩ q).cell? ⟨c, o, none⟩ = w.cell? ⟨c, o, none⟩ := World.cell?_of_block (a := ⟨c, o, none⟩) ((a0f _ _ h).trans (a0f _ _ h))
theorem d4s {a b : Value} (h : tm[2]?.getD undef = .pointer (some ⟨B, 0, none⟩)) (hx : W.heap[B]? = some (.cells #[a, b] 57)) : (results Tryz.f72 tm).run Tryz.prog W = .ok (.agg #[a, b]) W := by
 have d0 : W.cell? ⟨B, 0, none⟩ = some a := a0a hx rfl
 have d1 : W.cell? ⟨B, 1, none⟩ = some b := a0a hx rfl
 simp [results, Tryz.results72, go_sem, h, d0, d1]
theorem b7i (x : Tb) (kv vv : Value) (W : World) (hr : Row W.heap.size W kv x.ks) (hr' : Row W.heap.size W vv x.vs) (hl : x.ks.length ≤ 1000) (hl' : x.vs.length ≤ 1000) (hs : ∀ v ∈ x.ks, v.s.size ≤ 300) (hs' : ∀ v ∈ x.vs, v.s.size ≤ 300) :
  Calls Tryz.prog 72 #[.agg #[kv, vv]] W fun e W' => ∃ g cap g' cap', e = .returned (.agg #[.slice (some ⟨g, 0, none⟩) x.ks.length cap, .slice (some ⟨g', 0, none⟩) x.vs.length cap']) ∧ OwnR W' g 30 3 x.ks.length cap (flat x.ks) ∧ OwnR W' g' 30 3 x.vs.length cap' (flat x.vs) ∧ W.heap.size ≤ g ∧ W.heap.size ≤ g' ∧ Below W.heap.size W W' := by
 obtain ⟨a, cp, hkv, _⟩ := id hr
 obtain ⟨a', cp', hvv, _⟩ := id hr'
 have hk : ∀ w2, Below W.heap.size W w2 → Calls Tryz.prog 69 #[kv, .func (.func 70) #[] #[]] w2 _ := fun w2 hb => a9z kv x.ks w2 (a1k hb.size (hr.below hb)) hl hs
 have hv : ∀ w2, Below W.heap.size W w2 → Calls Tryz.prog 69 #[vv, .func (.func 70) #[] #[]] w2 _ := fun w2 hb => a9z vv x.vs w2 (a1k hb.size (hr'.below hb)) hl' hs'
 subst hkv
 subst hvv
 obtain ⟨n, hn⟩ := exq (x.ks.length)
 obtain ⟨n', hn'⟩ := exq (x.vs.length)
 rw [hn] at hk ⊢
 rw [hn'] at hv ⊢
 obtain ⟨w1, hw1⟩ := exq ((W.alloc (.cells #[.slice a n cp, .slice a' n' cp'] 57)).alloc (.cells #[.slice none 0 0, .slice none 0 0] 57))
 have E0 : Below W.heap.size W w1 := by rw [← hw1]; exact a0c (a0c (Below.refl W.heap.size W) _) _
 have g0 : w1.heap[W.heap.size]? = some (.cells #[.slice a n cp, .slice a' n' cp'] 57) := by rw [← hw1]; exact a0g _ (a0h _ _)
 have g1 : w1.heap[W.heap.size + 1]? = some (.cells #[.slice none 0 0, .slice none 0 0] 57) := by rw [← hw1]; exact a6w W _ _
 have p0 := a0a (i := 0) g0 rfl
 have p1 := a0a (i := 1) g0 rfl
 have hS : ∀ u, Below w1.heap.size w1 u → u.cell? ⟨W.heap.size, 0, none⟩ = some (.slice a n cp) ∧ u.cell? ⟨W.heap.size, 1, none⟩ = some (.slice a' n' cp') := fun u hb => ⟨a0l hb p0, a0l hb p1⟩
 have hz : W.heap.size + 1 < w1.heap.size := a0n g1
 replace hS : Hid _ := hS
 replace hk : Hid _ := hk
 replace hv : Hid _ := hv
 have y1 : W.heap.size ≠ W.heap.size + 1 := by omega
 clear hr hr' hl hl' hs hs' hn hn'
 go_enter Tryz.func72, Tryz.ntmps72
 go_wp2
 go_region_held3 (fun u => u.cell? ⟨W.heap.size, 0, none⟩ = some (.slice a n cp) ∧ u.cell? ⟨W.heap.size, 1, none⟩ = some (.slice a' n' cp')) (first | go_keep | with_reducible exact ⟨(k2' y1).trans s0, (k2' y1).trans s1⟩) (first | (go_at_call_of 69 a; refine (hk.out _ (a0i E0)).mono ?_; rintro e w2 ⟨g, cap, rfl, hO, hg, hb2⟩; have N2 := a0b (a0i (Below.refl w1.heap.size w1)) hb2; obtain ⟨s0, s1⟩ := hS.out w2 N2) | (go_at_call_of 69 a'; refine (hv.out _ (a0b E0 N2)).mono ?_; rintro e w3 ⟨g', cap', rfl, hO', hg', hb3⟩; have N3 := a0b N2 hb3; obtain ⟨s0, s1⟩ := hS.out w3 N3; have G1 := a0d N3 g1; have m0 := a0a (i := 0) G1 rfl; have m1 := a0a (i := 1) G1 rfl; have z0 := a0e (i := 0) G1; have z1 := a0e (i := 1) G1))
 have hg2 : W.heap.size + 1 < g := by have h9 : w1.heap.size ≤ g := hg; omega
 have hg3 : w2.heap.size ≤ g' := hg'
 have hz2 := N2.size
 have E3 : Below W.heap.size W w3 := a0b E0 N3
 have hOa : OwnR w3 g 30 3 n cap (flat x.ks) := hO.same (hb3.block g hO.lt)
 go_wp2
 refine bodyPost_ret (d4s (B := W.heap.size + 1) rfl (a1t G1)) rfl ⟨g, cap, g', cap', rfl, ?_, ?_, by omega, by omega, a1g _ _ E3 (by omega)⟩
 ·exact hOa.same (a2h _ _ _ (by omega))
 ·exact hO'.same (a2h _ _ _ (by omega))
def TI (lo : Nat) (W : World) (g : Nat) (tw : List Tw) : Prop := ∀ q ∈ tw, RwG lo W g q.a q.t.ks ∧ RwG lo W g q.b q.t.vs
theorem c1a (sv : Value) (xs : List Tb) (W : World) (hr : b0a W.heap.size W sv xs) (hl : xs.length ≤ 200) (hrl : ∀ x ∈ xs, x.ks.length ≤ 1000 ∧ x.vs.length ≤ 1000) (hs : ∀ x ∈ xs, (∀ v ∈ x.ks, v.s.size ≤ 300) ∧ ∀ v ∈ x.vs, v.s.size ≤ 300) :
  Calls Tryz.prog 71 #[sv, .func (.func 72) #[] #[]] W fun e W' => ∃ g cap tw, e = .returned (.slice (some ⟨g, 0, none⟩) xs.length cap) ∧ OwnR W' g 57 2 xs.length cap (a0m tw) ∧ tw.map Tw.t = xs ∧ TI W.heap.size W' g tw ∧ W.heap.size ≤ g ∧ Below W.heap.size W W' := by
 obtain ⟨a, cp, rfl, _, hx⟩ := hr
 obtain ⟨n, hn⟩ := exq (xs.length)
 rw [hn] at hl ⊢
 obtain ⟨mc, hmk, hms⟩ := a9d 26 57 _ 2 48 n Tryz.underlying26 a9x (by omega) (by omega) (by omega)
 obtain ⟨i0, hi0, hz0, hz1, hz2⟩ := a1h a9x
 replace hn : Hid _ := hn
 replace hx : Hid _ := hx
 replace hs : Hid _ := hs
 replace hrl : Hid _ := hrl
 go_enter Tryz.func71, Tryz.ntmps71
 go_wp2
 go_loopw [5, 13] (fun t i wr => ∃ (k g cap : Nat) (tw : List Tw), k ≤ n ∧ i = .int .i64 (k : Nat) ∧ t = .slice (some ⟨g, 0, none⟩) k cap ∧ Hid (OwnR wr g 57 2 k cap (a0m tw) ∧ tw.map Tw.t = xs.take k ∧ TI W.heap.size wr g tw) ∧ W.heap.size ≤ g ∧ Below W.heap.size W wr) (fun _ i _ => n - (intOf i).toNat)
 case atStart => exact ⟨0, W.heap.size, n, [], Nat.zero_le _, rfl, rfl, ⟨OwnR.made hms (by omega), by simp, fun q hq => by simp at hq⟩, Nat.le_refl _, a0c (Below.refl _ _) _⟩
 case round =>
  obtain ⟨k, g, cap, tw, hk, rfl, rfl, hO, hg, hbw⟩ := hrel
  by_cases hlt : k < n
  ·obtain ⟨x, hxk⟩ : ∃ x, xs[k]? = some x := ⟨xs[k]'(by rw [hn.out]; exact hlt), List.getElem?_eq_getElem _⟩
   obtain ⟨b, off, rfl, hb, hc⟩ := hx.out (fun e => by rw [e] at hxk; simp at hxk)
   obtain ⟨kv, vv, c0, c1, hrow, hrow'⟩ := (hc k x hxk).below hbw hb
   have hmem := List.mem_of_getElem? hxk
   have hbwr : b < wr.heap.size := Nat.lt_of_lt_of_le hb hbw.size
   have hb0 := a0c (Below.refl wr.heap.size wr) (.cells #[kv, vv] 57)
   have hfv := b7i x kv vv (wr.alloc (.cells #[kv, vv] 57)) (a1k (by rw [World.size_alloc]; have := hbw.size; omega) (hrow.below (hb0.mono hbw.size))) (a1k (by rw [World.size_alloc]; have := hbw.size; omega) (hrow'.below (hb0.mono hbw.size))) (hrl.out x hmem).1 (hrl.out x hmem).2 (hs.out x hmem).1 (hs.out x hmem).2
   have hgl : g < wr.heap.size := hO.out.1.lt
   have h63 : k + 1 ≤ maxLen := by unfold maxLen; omega
   have hby : (k + 1) * 48 ≤ 140737488355328 := by omega
   obtain ⟨ra, rc, hrv, _⟩ := id hrow
   obtain ⟨ra', rc', hrv', _⟩ := id hrow'
   subst hrv
   subst hrv'
   obtain ⟨m, hm⟩ := exq (x.ks.length)
   obtain ⟨m', hm'⟩ := exq (x.vs.length)
   rw [hm] at hfv c0 hb0
   rw [hm'] at hfv c1 hb0
   replace hm : Hid _ := hm
   replace hm' : Hid _ := hm'
   clear hrow hrow'
   have hnw : ∀ (u : World) (p q : Value) (j : Nat) (y : Value), [p, q][j]? = some y → (u.alloc (.cells #[p, q] 57)).cell? ((⟨u.heap.size, 0, none⟩ : Addr).add j) = some y := fun u p q j y hy => by
    match j, hy with
    | 0, hy => cases hy; exact a0a (i := 0) (a0h u _) rfl
    | 1, hy => cases hy; exact a0a (i := 1) (a0h u _) rfl
    | j + 2, hy => simp at hy
   go_wp2_with (first | (go_at_call 72; refine hfv.mono ?_; rintro e w2 ⟨gq, cq, gr, cr, rfl, hOq, hOr, hgq, hgr, hb2⟩; have E2 := a0b hb0 hb2; have E3 := a0c E2 (.cells #[.slice (some ⟨gq, 0, none⟩) m cq, .slice (some ⟨gr, 0, none⟩) m' cr] 57); have hown := (hO.out.1.same (E3.block g hgl)).owns (base := W.heap.size) hg; have hnews := hnw w2 (.slice (some ⟨gq, 0, none⟩) m cq) (.slice (some ⟨gr, 0, none⟩) m' cr); have hsz : W.heap.size ≤ (w2.alloc (.cells #[.slice (some ⟨gq, 0, none⟩) m cq, .slice (some ⟨gr, 0, none⟩) m' cr] 57)).heap.size := Nat.le_trans hbw.size E3.size) | (at_builtin; refine wpList_append_lies _ (by rfl) _ _ _ (by rfl) W.heap.size 57 i0 _ 2 48 Tryz.underlying26 hi0 hz0 hz1 hz2 rfl (by omega) (.slice (some ⟨g, 0, none⟩) k cap) k _ (by rfl) hown ⟨w2.heap.size, 0, none⟩ 1 1 [.slice (some ⟨gq, 0, none⟩) m cq, .slice (some ⟨gr, 0, none⟩) m' cr] (by rfl) (by rfl) hnews (by simp [Value.oneCell']) (by omega) h63 hby hsz _ rfl ?_; intro g3 cap3 w3 hown3 hgrow hat hlt3))
   go_roundw
   case measure => simp [intOf]; omega
   case rel =>
    have hO3 := OwnR.of hown3
    obtain ⟨o1, o2, o3⟩ := hO.out
    have hU : (w2.alloc (.cells #[.slice (some ⟨gq, 0, none⟩) m cq, .slice (some ⟨gr, 0, none⟩) m' cr] 57)).heap.size = w2.heap.size + 1 := World.size_alloc _ _
    have hat' : g = g3 ∨ g3 = w2.heap.size + 1 := by
     rcases hat with e | e
     ·exact .inl (Option.some.inj e)
     ·exact .inr (by omega)
    have hwr : (wr.alloc (.cells #[.slice ra m rc, .slice ra' m' rc'] 57)).heap.size = wr.heap.size + 1 := World.size_alloc _ _
    have hql := hOq.lt
    have hrl2 := hOr.lt
    have hE2 := E2.size
    have hbs := hbw.size
    have hgs := hgrow.size
    rw [hU] at hgs
    have same : ∀ b, b < w2.heap.size → b ≠ g → w3.heap[b]? = w2.heap[b]? := fun b hb hn => (hgrow.block b (by omega) (fun e => hn (Option.some.inj e))).trans (Below.heap_alloc _ _ _ hb)
    refine ⟨k + 1, g3, cap3, tw ++ [⟨x, .slice (some ⟨gq, 0, none⟩) m cq, .slice (some ⟨gr, 0, none⟩) m' cr⟩], by omega, by go_num, rfl, ⟨?_, ?_, ?_⟩, hO3.2, ?_⟩
    ·rw [a5c]
     simpa [a0m] using hO3.1
    ·rw [a3t hxk, List.map_append, o2]; rfl
    ·intro z hz
     rcases List.mem_append.1 hz with hz | hz
     ·have key : ∀ b, W.heap.size ≤ b → b < wr.heap.size → b ≠ g → w3.heap[b]? = wr.heap[b]? ∧ b ≠ g3 := fun b _ hb hn => ⟨(same b (by omega) hn).trans (E2.block b hb), fun e => by rcases hat' with e2 | e2 <;> omega⟩
      exact ⟨(o3 z hz).1.keep (Nat.le_refl _) key (by omega), (o3 z hz).2.keep (Nat.le_refl _) key (by omega)⟩
     ·simp only [List.mem_singleton] at hz
      subst hz
      have q1 : OwnR w3 gq 30 3 x.ks.length cq (flat x.ks) := by rw [hm.out]; exact hOq.same (same gq hql (by omega))
      have q2 : OwnR w3 gr 30 3 x.vs.length cr (flat x.vs) := by rw [hm'.out]; exact hOr.same (same gr hrl2 (by omega))
      have r1 := RwG.of (lo := W.heap.size) (h := g3) q1 (by omega) (by rcases hat' with e2 | e2 <;> omega)
      have r2 := RwG.of (lo := W.heap.size) (h := g3) q2 (by omega) (by rcases hat' with e2 | e2 <;> omega)
      rw [hm.out] at r1
      rw [hm'.out] at r2
      exact ⟨r1, r2⟩
    ·have hk3 := a1n.grown hgrow
     exact (((a1n.of_below (S := fun k => some k = some g) hbw).trans ((a1n.of_below (S := fun k => some k = some g) E3).mono (fun _ _ h => h))).trans hk3).below (Nat.le_refl _) (fun k hk e => by have := Option.some.inj e; omega)
  ·obtain rfl : k = n := by omega
   go_wp2
   go_ret
   obtain ⟨o1, o2, o3⟩ := hO.out
   rw [List.take_of_length_le (by rw [hn.out]; exact Nat.le_refl _)] at o2
   exact ⟨g, cap, tw, rfl, o1, o2, o3, hg, hbw⟩
abbrev putg (W : World) (g a : Nat) (v : Vl) : World := ((W.setCell ⟨g, a * 3, none⟩ (.int .i64 v.k)).setCell ⟨g, a * 3 + 1, none⟩ (.int .i64 v.n)).setCell ⟨g, a * 3 + 2, none⟩ (.string v.s)
structure a3g (W : World) (g a : Nat) (v : Vl) : Prop where
 t : a1m W g (a * 3) v
 f0 : W.frozen? ⟨g, a * 3, none⟩ = false
 f1 : W.frozen? ⟨g, a * 3 + 1, none⟩ = false
 f2 : W.frozen? ⟨g, a * 3 + 2, none⟩ = false
theorem a3g.on {a : Nat} (h : a3g W g a v) (hb : Below W.heap.size W W') : a3g W' g a v := by
 have hg := World.block_lt_of_cell? _ _ h.t.k
 exact ⟨h.t.below hb hg, (hb.frozen (p := ⟨g, a * 3, none⟩) hg).trans h.f0, (hb.frozen (p := ⟨g, a * 3 + 1, none⟩) hg).trans h.f1, (hb.frozen (p := ⟨g, a * 3 + 2, none⟩) hg).trans h.f2⟩
theorem c9u (pt : Value) (g n cp a b : Nat) (c : Int) (va vb : Vl) (W : World) (ha : a3g W g a va) (hb : a3g W g b vb) (hla : a < n) (hlb : b < n) :
  Calls Tryz.prog 80 #[pt, .slice (some ⟨g, 0, none⟩) n cp, .agg #[.int .i64 1, .int .i64 (a : Nat), .int .i64 (b : Nat), .int .i64 c]] W fun e W' => e = .returned (.tuple #[]) ∧ ∃ V, Below W.heap.size W V ∧ W' = putg V g a vb := by
 have hg := World.block_lt_of_cell? _ _ ha.t.k
 simp only at hg
 have hb1 := a0c (Below.refl W.heap.size W) (.cells #[.int .i64 1, .int .i64 (a : Nat), .int .i64 (b : Nat), .int .i64 c] 82)
 have g1 : (W.alloc (.cells #[.int .i64 1, .int .i64 (a : Nat), .int .i64 (b : Nat), .int .i64 c] 82)).heap[W.heap.size]? = _ := a0h _ _
 obtain ⟨w1, hw1⟩ := exq (W.alloc (.cells #[.int .i64 1, .int .i64 (a : Nat), .int .i64 (b : Nat), .int .i64 c] 82))
 rw [hw1] at hb1 g1
 have o0 : w1.cell? ⟨W.heap.size, 0, none⟩ = some (.int .i64 1) := a0a g1 rfl
 have o1 : w1.cell? ⟨W.heap.size, 1, none⟩ = some (.int .i64 (a : Nat)) := a0a g1 rfl
 have o2 : w1.cell? ⟨W.heap.size, 2, none⟩ = some (.int .i64 (b : Nat)) := a0a g1 rfl
 obtain ⟨⟨a0, a1, a2⟩, fa0, fa1, fa2⟩ := ha.on hb1
 obtain ⟨⟨b0, b1, b2⟩, _, _, _⟩ := hb.on hb1
 go_enter Tryz.func80, Tryz.ntmps80
 go_wp2
 go_region
 all_goals
  go_wp2
  go_end0
  exact ⟨rfl, w1.drew, a0i hb1, rfl⟩
structure VT (W : World) (R : Int ⊕ Vl) (e : Ending) (W' : World) : Prop where
 b : Below W.heap.size W W'
 w : (∃ c, R = .inl c ∧ e = .panicked (pan (flr c))) ∨ (∃ r, R = .inr r ∧ e = .returned r.v)
theorem VQ.two {R : Int ⊕ Vl} {e : Ending} (h : VQ W R e W') : VT W R e W' := by
 obtain ⟨h1, h2⟩ := h
 cases R with
 | inl c => exact ⟨h1, .inl ⟨c, rfl, h2⟩⟩
 | inr r => exact ⟨h1, .inr ⟨r, rfl, h2⟩⟩
def PQ (W : World) (g a : Nat) (R : Int ⊕ Vl) (e : Ending) (W' : World) : Prop :=
 (∃ c, R = .inl c ∧ e = .panicked (pan (flr c)) ∧ Below W.heap.size W W') ∨ (∃ r, R = .inr r ∧ e = .returned (.tuple #[]) ∧ ∃ V, Below W.heap.size W V ∧ W' = putg V g a r)
theorem d2j (B g n cp a b : Nat) (c : Int) (va vb : Vl) (R : Int ⊕ Vl) (W : World) (ha : a3g W g a va) (hb : a3g W g b vb) (hla : a < n) (hlb : b < n) (hq : ∀ w2, Below W.heap.size W w2 → Calls Tryz.prog 101 #[.pointer (some ⟨B, 0, none⟩), vb.v] w2 (VQ w2 R)) :
  Calls Tryz.prog 80 #[.pointer (some ⟨B, 0, none⟩), .slice (some ⟨g, 0, none⟩) n cp, .agg #[.int .i64 6, .int .i64 (a : Nat), .int .i64 (b : Nat), .int .i64 c]] W (PQ W g a R) := by
 have hg := World.block_lt_of_cell? _ _ ha.t.k
 simp only at hg
 have hb1 := a0c (Below.refl W.heap.size W) (.cells #[.int .i64 6, .int .i64 (a : Nat), .int .i64 (b : Nat), .int .i64 c] 82)
 have g1 : (W.alloc (.cells #[.int .i64 6, .int .i64 (a : Nat), .int .i64 (b : Nat), .int .i64 c] 82)).heap[W.heap.size]? = some (.cells #[.int .i64 6, .int .i64 (a : Nat), .int .i64 (b : Nat), .int .i64 c] 82) := a0h _ _
 obtain ⟨w1, hw1⟩ := exq (W.alloc (.cells #[.int .i64 6, .int .i64 (a : Nat), .int .i64 (b : Nat), .int .i64 c] 82))
 rw [hw1] at hb1 g1
 have o0 : w1.cell? ⟨W.heap.size, 0, none⟩ = some (.int .i64 6) := a0a g1 rfl
 have o1 : w1.cell? ⟨W.heap.size, 1, none⟩ = some (.int .i64 (a : Nat)) := a0a g1 rfl
 have o2 : w1.cell? ⟨W.heap.size, 2, none⟩ = some (.int .i64 (b : Nat)) := a0a g1 rfl
 have o3 : w1.cell? ⟨W.heap.size, 3, none⟩ = some (.int .i64 c) := a0a g1 rfl
 obtain ⟨⟨b0, b1, b2⟩, _, _, _⟩ := hb.on hb1
 have hS : ∀ u, Below w1.heap.size w1 u → u.cell? ⟨W.heap.size, 1, none⟩ = some (.int .i64 (a : Nat)) ∧ a3g u g a va := fun u h => ⟨a0l h o1, (ha.on hb1).on h⟩
 have hq' : ∀ w2, Below W.heap.size W w2 → Calls Tryz.prog 101 #[.pointer (some ⟨B, 0, none⟩), vb.v] w2 (VT w2 R) := fun w2 h => (hq w2 h).mono fun _ _ k => k.two
 replace hq' : Hid _ := hq'
 replace hS : Hid _ := hS
 clear hq g1 ha hb
 go_enter Tryz.func80, Tryz.ntmps80
 go_wp2
 go_region_with (first | (go_at_call 101; refine (hq'.out _ (a0i hb1)).mono ?_; rintro e w2 ⟨hb2, (⟨cc, hR, rfl⟩ | ⟨r, hR, rfl⟩)⟩; (exact ⟨rfl, .inl ⟨cc, hR, rfl, a0b (a0i hb1) hb2⟩⟩); obtain ⟨k1, ⟨_, _, _⟩, fa0, fa1, fa2⟩ := hS.out w2 (a0b (a0i (Below.refl _ _)) hb2)))
 all_goals
  go_wp2
  go_end0
  exact .inr ⟨r, hR, rfl, w2, a0b (a0i hb1) hb2, rfl⟩
end
end Go.Proofs.YthpgbienakcbeaaGreatDoor
