/- A step leaves a state that may be. A step leaves a state that may be: the step. The machine in memory: its own blocks, and what lies apart from them. The machine in memory: what a write makes of it. -/
import Derived.Test.YthdhgfpidhbdiaaGreatDoorJ23
import Derived.Test.YthdhgfpidhbdiaaGreatDoorJ24
import Derived.Deep.AppendLies
import Derived.OwnWalk
import Derived.Lib.BufferWrite
namespace Go.Proofs.YthdhgfpidhbdiaaGreatDoor
open Go

set_option linter.unusedSectionVars false
variable [DecidableEq Vl]

theorem allB_get {α : Type} {p : Nat → α → Bool} {xs : List α} (h : allB p xs = true) {j : Nat} {x : α} (hx : xs[j]? = some x) : p j x = true := by
  cases e : p j x
  · rw [allB_false hx e] at h; cases h
  · rfl
/-- A function that may be, in words. -/
structure FnOk (nf : Nat) (f : Fd) : Prop where
  p0 : 0 ≤ f.p
  p5 : f.p ≤ 5
  r1 : 1 ≤ f.r
  pr : f.p ≤ f.r
  r2 : f.r ≤ 250
  i1 : 1 ≤ f.is.length
  i2 : f.is.length ≤ 3000
  cs : ∀ (i : Nat) (c : Vl), f.cs[i]? = some c → constB nf c = true
  is : ∀ (i : Nat) (o : Od), f.is[i]? = some o → instrB f o i = true
  la : ∀ o, f.is[f.is.length - 1]? = some o → lastB o = true
theorem prog_fn {fs : List Fd} {main : Int} (h : progB fs main = true) {n : Nat} {f : Fd} (hf : fs[n]? = some f) : FnOk fs.length f := by
  have h1 : allB (fun _ => fnB fs.length) fs = true := by simp only [progB, Bool.and_eq_true] at h; exact h.2
  have h2 := allB_get h1 hf
  simp only [fnB, Bool.and_eq_true, headB, codeB] at h2
  obtain ⟨⟨⟨⟨⟨a1, a2⟩, a3⟩, a4⟩, a5⟩, a6, a7⟩ := h2
  simp only [frB, Bool.and_eq_true, decide_eq_true_eq] at a1 a2 a3 a4
  refine ⟨a1.1, a1.2, by omega, by omega, a2.2, by omega, by omega, fun i c hc => allB_get a5 hc, fun i o ho => allB_get a6 ho, fun o ho => ?_⟩
  rw [ho] at a7
  exact a7
/-- The order at a place is there. -/
theorem FG.order {fs : List Fd} {main : Int} {nt : Nat} {x : Frm} (hp : progB fs main = true) (h : FG fs nt x) : ∃ f o, fs[x.f.toNat]? = some f ∧ f.is[x.pc.toNat]? = some o ∧ orderAt fs x = some o ∧ instrB f o x.pc.toNat = true ∧ FnOk fs.length f ∧ 0 ≤ x.f ∧ 0 ≤ x.pc ∧ x.pc < f.is.length ∧ (x.rs.length : Int) = f.r ∧ (∀ v ∈ x.rs, VG nt fs.length v) ∧ (¬ o.op = 8 → ¬ o.op = 10 → ¬ o.op = 12 → x.pc + 1 < f.is.length) := by
  obtain ⟨f, h1, h2, h3, h4, h5, h6⟩ := h
  have hk := prog_fn hp h1
  have hlt : x.pc.toNat < f.is.length := by omega
  have ho : f.is[x.pc.toNat]? = some (f.is[x.pc.toNat]) := List.getElem?_eq_getElem hlt
  refine ⟨f, _, h1, ho, by simp [orderAt, h1, ho], hk.is _ _ ho, hk, h2, h3, h4, h5, h6, fun a b c => ?_⟩
  by_cases e : x.pc + 1 < f.is.length
  · exact e
  · have e2 : f.is.length - 1 = x.pc.toNat := by omega
    have := hk.la _ (by rw [e2]; exact ho)
    simp [lastB] at this
    omega

theorem Good.top {fs : List Fd} {s : St} (h : Good fs s) : ∃ ini x, s.fr = ini ++ [x] := by
  have : s.fr ≠ [] := fun e => by have := h.n1; rw [e] at this; simp at this
  exact ⟨s.fr.dropLast, s.fr.getLast this, (List.dropLast_concat_getLast this).symm⟩
/-- Another top frame, of as many registers. -/
theorem Good.setTop {fs : List Fd} {s : St} (h : Good fs s) {ini : List Frm} {x y : Frm} (e : s.fr = ini ++ [x]) {tb : List Tb} {out : List ByteArray} {st : Int} (hd : y.d = x.d) (hy : FG fs tb.length y)
    (ht : s.tb.length ≤ tb.length) (ht2 : tb.length ≤ 200) (htg : ∀ t ∈ tb, TG tb.length fs.length t) (hst : st = s.st + 1) (h60 : s.st < 60000) (ho : out.length ≤ s.out.length + 1) (ho2 : ∀ t ∈ out, t.size ≤ 300) (hen : s.en = 0) :
    Good fs { s with fr := ini ++ [y], tb := tb, out := out, st := st } := by
  have hs1 := h.s1
  have ho1 := h.o1
  have hdg := h.dg
  rw [e] at hdg
  rw [DG.append] at hdg
  refine ⟨by simp, ?_, ?_, ?_, ht2, htg, ?_, ?_, ?_, ho2, ?_⟩
  · have := h.n2
    rw [e] at this
    simpa using this
  · show DG 1 (ini ++ [y])
    rw [DG.append, hd]
    exact hdg
  · intro z hz
    rcases List.mem_append.1 hz with hz | hz
    · exact (h.fg z (by rw [e]; exact List.mem_append_left _ hz)).mono ht
    · simp at hz; subst hz; exact hy
  · show 0 ≤ st; omega
  · show st ≤ 60000; omega
  · show (out.length : Int) ≤ st; omega
  · rcases h.e with h1 | h1 | h1
    · exact .inl h1
    · have := h1.1; omega
    · have := h1.1; omega
/-- A register is set. -/
theorem FG.put {fs : List Fd} {nt : Nat} {x : Frm} (h : FG fs nt x) (i : Int) {v : Vl} (hv : VG nt fs.length v) : FG fs nt (putR x i v) := by
  obtain ⟨f, h1, h2, h3, h4, h5, h6⟩ := h
  refine ⟨f, h1, h2, h3, h4, by simpa [putR] using h5, fun u hu => ?_⟩
  rcases List.mem_or_eq_of_mem_set hu with hu | rfl
  · exact h6 u hu
  · exact hv
theorem FG.at {fs : List Fd} {nt : Nat} {x : Frm} (h : FG fs nt x) {pc : Int} {f : Fd} (hf : fs[x.f.toNat]? = some f) (h0 : 0 ≤ pc) (h1 : pc < f.is.length) : FG fs nt { x with pc := pc } := by
  obtain ⟨g, e1, e2, e3, e4, e5, e6⟩ := h
  rw [hf] at e1
  cases e1
  exact ⟨f, hf, e2, h0, h1, e5, e6⟩
theorem TG.of {nt nf : Nat} {tb : List Tb} (h : ∀ t ∈ tb, TG nt nf t) {v : Vl} (hv : VG tb.length nf v) (hk : v.k = 4) : tb[v.n.toNat]? = some (tabOf tb v) ∧ TG nt nf (tabOf tb v) ∧ 0 ≤ v.n ∧ v.n.toNat < tb.length := by
  have h0 : 0 ≤ v.n := by
    have := hv.m
    rw [hk] at this
    unfold mayB at this
    rcases Bool.eq_false_or_eq_true v.s.toList.isEmpty with e | e <;> simp [e] at this
    omega
  have hlt : v.n.toNat < tb.length := by have := hv.t hk; omega
  have e : tb[v.n.toNat]? = some (tabOf tb v) := by simp [tabOf, hlt]
  exact ⟨e, h _ (List.mem_of_getElem? e), h0, hlt⟩
theorem VG.next {nt nf : Nat} {t : Tb} (h : TG nt nf t) {k : Vl} (h0 : (nextT t.ks t.vs k).2 = 0) : VG nt nf (nextT t.ks t.vs k).1 := by
  unfold nextT at h0 ⊢
  split at h0
  · rename_i hc
    rw [if_pos hc]
    rcases scan_in h0 with e | e
    · rw [e]; exact VG.nil _ _
    · exact h.k _ e
  · simp at h0
theorem setZ_mem {k v : Vl} {zs : List (Vl × Vl)} {p : Vl × Vl} (h : p ∈ setZ k v zs) : (p.1 = k ∨ p.1 ∈ keysOf zs) ∧ (p.2 = v ∨ p.2 ∈ valsOf zs) := by
  unfold setZ at h
  rcases List.mem_append.1 h with h | h
  · obtain ⟨h1, h2⟩ := part_mem h
    refine ⟨.inr h1, ?_⟩
    rcases h2 with h2 | h2
    · exact .inl h2.1
    · exact .inr (List.mem_map.2 ⟨p, h2, rfl⟩)
  · split at h
    · simp at h
    · have := (List.mem_filter.1 h).1
      simp at this
      subst this
      exact ⟨.inl rfl, .inl rfl⟩
theorem TG.set {nt nf : Nat} {t : Tb} (h : TG nt nf t) {k v : Vl} (hk : VG nt nf k) (hv : VG nt nf v) (h0 : (setT t.ks t.vs k v).2 = 0) : TG nt nf ⟨keysOf (setT t.ks t.vs k v).1, valsOf (setT t.ks t.vs k v).1⟩ := by
  have hm := h.m
  obtain ⟨hl, hl'⟩ := mayT_len hm
  have hz1 := zip_keys hl
  have hz2 := zip_vals hl
  unfold setT at h0 ⊢
  rw [if_neg (by simp [hm, hk.m, hv.m])] at h0 ⊢
  by_cases hk0 : k.k = 0
  · rw [if_pos hk0] at h0; simp at h0
  rw [if_neg hk0] at h0 ⊢
  by_cases hb : 100 < (setZ k v (t.ks.zip t.vs)).length
  · rw [if_pos hb] at h0; simp at h0
  rw [if_neg hb]
  have hF : Fine k v (t.ks.zip t.vs) := by
    simp only [mayT, Bool.and_eq_true, decide_eq_true_eq, List.all_eq_true] at hm
    refine ⟨fun p hp => hm.1.2.1 _ (List.of_mem_zip hp).1, fun p hp => hm.1.2.2 _ (List.of_mem_zip hp).2, by rw [hz1]; exact hm.2, ?_, hv.m⟩
    simp [stB, hk.m, hk0]
  refine ⟨set_may hF hb, fun u hu => ?_, fun u hu => ?_⟩
  · obtain ⟨p, hp, rfl⟩ := List.mem_map.1 hu
    rcases (setZ_mem hp).1 with e | e
    · rw [e]; exact hk
    · rw [hz1] at e; exact h.k _ e
  · obtain ⟨p, hp, rfl⟩ := List.mem_map.1 hu
    rcases (setZ_mem hp).2 with e | e
    · rw [e]; exact hv
    · rw [hz2] at e; exact h.v _ e
theorem setT_err {xs ys : List Vl} {k v : Vl} (h : mayT xs ys = true) (hk : mayB k.k k.n k.s = true) (hv : mayB v.k v.n v.s = true) : (setT xs ys k v).2 = 0 ∨ (setT xs ys k v).2 = 1 ∨ (setT xs ys k v).2 = 3 := by
  unfold setT
  rw [if_neg (by simp [h, hk, hv])]
  split
  · exact .inr (.inr rfl)
  · split
    · exact .inr (.inl rfl)
    · exact .inl rfl
theorem scan_err {k : Vl} : ∀ {xs : List Vl} {b : Bool}, (scan b k xs).2 = 0 ∨ (scan b k xs).2 = 4
  | [], b => by cases b <;> simp [scan]
  | x :: xs, true => .inl (by simp [scan])
  | x :: xs, false => by rw [scan]; simpa using scan_err (xs := xs)
theorem nextT_err {xs ys : List Vl} {k : Vl} (h : mayT xs ys = true) (hk : mayB k.k k.n k.s = true) : (nextT xs ys k).2 = 0 ∨ (nextT xs ys k).2 = 4 := by
  unfold nextT
  rw [if_pos ⟨h, hk⟩]
  exact scan_err
end Go.Proofs.YthdhgfpidhbdiaaGreatDoor
namespace Go.Proofs.YthdhgfpidhbdiaaGreatDoor
open Go.RowKit
open Go

set_option linter.unusedSectionVars false
variable [DecidableEq Vl]

theorem VG.op {F : Int → Vl → Vl → Vl × Int} (hF : OpF F) {nt nf : Nat} {op : Int} {x y : Vl} (h : (F op x y).2 = 0) : VG nt nf (F op x y).1 := by
  obtain ⟨h1, h2, h3⟩ := hF.m op x y h
  exact ⟨h1, fun e => absurd e h2, fun e => absurd e h3⟩
theorem VG.cst {nt nf : Nat} {v : Vl} (h : constB nf v = true) : VG nt nf v := by
  simp only [constB, Bool.and_eq_true, Bool.not_eq_true', Bool.and_eq_false_iff, beq_eq_false_iff_ne, decide_eq_false_iff_not] at h
  refine ⟨h.1.1, fun e => absurd e h.1.2, fun e => ?_⟩
  rcases h.2 with h2 | h2
  · exact absurd e h2
  · omega
theorem TG.nil (nt nf : Nat) : TG nt nf ⟨[], []⟩ := ⟨by simp [mayT], by simp, by simp⟩
theorem VG.tab {nf n : Nat} (h : n ≤ 1000) : VG (n + 1) nf (tbV n) := by
  unfold tbV
  rw [dif_pos h]
  exact ⟨by simp [mayB]; omega, fun _ => by simp; omega, fun h => by simp at h⟩
/-- What a plain order leaves. -/
theorem plain_good {F : Int → Vl → Vl → Vl × Int} (hF : OpF F) {fs : List Fd} {main : Int} (hp : progB fs main = true) {o : Od} {x : Frm} {f : Fd} {tb : List Tb} {out : List ByteArray} (hx : FG fs tb.length x) (hf : fs[x.f.toNat]? = some f) (hi : instrB f o x.pc.toNat = true)
    (ht : tb.length ≤ 200) (htg : ∀ t ∈ tb, TG tb.length fs.length t) (ho : ∀ t ∈ out, t.size ≤ 300) (n8 : ¬ o.op = 8) (n9 : ¬ o.op = 9) (n10 : ¬ o.op = 10) (n11 : ¬ o.op = 11) (n12 : ¬ o.op = 12) :
    match plainR F fs o x tb out with
    | .inl c => c = 1 ∨ c = 3 ∨ c = 4 ∨ c = 7
    | .inr (y, tb', out') => y.pc = x.pc ∧ y.f = x.f ∧ y.d = x.d ∧ FG fs tb'.length y ∧ tb.length ≤ tb'.length ∧ tb'.length ≤ 200 ∧ (∀ t ∈ tb', TG tb'.length fs.length t) ∧ out'.length ≤ out.length + 1 ∧ ∀ t ∈ out', t.size ≤ 300 := by
  have hk := prog_fn hp hf
  have rg := fun i => VG.rg hx i
  have same : ∀ {v : Vl}, VG tb.length fs.length v → (putR x o.a v).pc = x.pc ∧ (putR x o.a v).f = x.f ∧ (putR x o.a v).d = x.d ∧ FG fs tb.length (putR x o.a v) ∧ tb.length ≤ tb.length ∧ tb.length ≤ 200 ∧ (∀ t ∈ tb, TG tb.length fs.length t) ∧ out.length ≤ out.length + 1 ∧ ∀ t ∈ out, t.size ≤ 300 :=
    fun hv => ⟨rfl, rfl, rfl, hx.put _ hv, Nat.le_refl _, ht, htg, by omega, ho⟩
  unfold plainR
  by_cases e1 : o.op = 1
  · rw [if_pos e1]; exact same (rg _)
  rw [if_neg e1]
  by_cases e2 : o.op = 2
  · rw [if_pos e2]
    refine same ?_
    unfold cstV
    rw [hf]
    cases hc : f.cs[o.b.toNat]? with
    | none => simp [hc]; exact VG.nil _ _
    | some c => simp [hc]; exact VG.cst (hk.cs _ _ hc)
  rw [if_neg e2]
  by_cases e3 : o.op = 3
  · rw [if_pos e3]
    by_cases hl : tb.length = 200
    · rw [if_pos hl]; exact .inl rfl
    · rw [if_neg hl]
      refine ⟨rfl, rfl, rfl, (hx.mono (by simp)).put _ ?_, by simp, by simp; omega, fun t hh => ?_, by omega, ho⟩
      · rw [List.length_append]; exact VG.tab (by omega)
      · rcases List.mem_append.1 hh with hh | hh
        · exact (htg t hh).mono (by simp)
        · simp at hh; subst hh; exact TG.nil _ _
  rw [if_neg e3]
  by_cases e4 : o.op = 4
  · rw [if_pos e4]
    by_cases hk4 : (rgV x o.b).k = 4
    · rw [if_pos hk4]; exact same (VG.get (TG.of htg (rg _) hk4).2.1 _)
    · rw [if_neg hk4]; exact .inr (.inl rfl)
  rw [if_neg e4]
  by_cases e5 : o.op = 5
  · rw [if_pos e5]
    by_cases hk4 : (rgV x o.a).k = 4
    · rw [if_pos hk4]
      obtain ⟨g1, g2, g3, g4⟩ := TG.of htg (rg o.a) hk4
      by_cases h0 : (setT (tabOf tb (rgV x o.a)).ks (tabOf tb (rgV x o.a)).vs (rgV x o.b) (rgV x o.c)).2 = 0
      · rw [if_pos h0]
        refine ⟨rfl, rfl, rfl, by simpa using hx, by simp, by simpa using ht, fun t hh => ?_, by omega, ho⟩
        rw [List.length_set]
        rcases List.mem_or_eq_of_mem_set hh with hh | rfl
        · exact htg t hh
        · exact TG.set g2 (rg _) (rg _) h0
      · rw [if_neg h0]
        rcases setT_err g2.m (rg o.b).m (rg o.c).m with e | e | e
        · exact absurd e h0
        · exact .inl e
        · exact .inr (.inl e)
    · rw [if_neg hk4]; exact .inr (.inl rfl)
  rw [if_neg e5]
  by_cases e6 : o.op = 6
  · rw [if_pos e6]
    by_cases hk3 : (rgV x o.b).k = 3
    · rw [if_pos hk3]; exact same VG.num
    · rw [if_neg hk3]
      by_cases hk4 : (rgV x o.b).k = 4
      · rw [if_pos hk4]; exact same VG.num
      · rw [if_neg hk4]; exact .inr (.inl rfl)
  rw [if_neg e6]
  by_cases e7 : o.op = 7
  · rw [if_pos e7]
    by_cases hk4 : (rgV x o.b).k = 4
    · rw [if_pos hk4]
      obtain ⟨g1, g2, g3, g4⟩ := TG.of htg (rg o.b) hk4
      by_cases h0 : (nextT (tabOf tb (rgV x o.b)).ks (tabOf tb (rgV x o.b)).vs (rgV x o.c)).2 = 0
      · rw [if_pos h0]; exact same (VG.next g2 h0)
      · rw [if_neg h0]
        rcases nextT_err g2.m (rg o.c).m with e | e
        · exact absurd e h0
        · exact .inr (.inr (.inl e))
    · rw [if_neg hk4]; exact .inr (.inl rfl)
  rw [if_neg e7]
  by_cases e13 : o.op = 13
  · rw [if_pos e13]
    refine ⟨rfl, rfl, rfl, hx, Nat.le_refl _, ht, htg, by simp, fun t hh => ?_⟩
    rcases List.mem_append.1 hh with hh | hh
    · exact ho t hh
    · simp at hh; subst hh; exact text_size (rg o.a).m (wf64 (rgV x o.a).wn)
  rw [if_neg e13]
  have hop : 21 ≤ o.op ∧ o.op ≤ 31 := by
    unfold instrB fieldsR at hi
    by_cases h30 : o.op = 30
    · omega
    by_cases h31 : o.op = 31
    · omega
    by_cases hr : 21 ≤ o.op ∧ o.op ≤ 29
    · omega
    · simp [e1, e2, e3, e4, e5, e6, e7, n8, n9, n10, n11, n12, e13, h30, h31, hr] at hi
  by_cases e30 : o.op = 30 ∨ o.op = 31
  · rw [if_pos e30]
    by_cases h0 : (F (o.op - 20) (rgV x o.b) nilV).2 = 0
    · rw [if_pos h0]; exact same (VG.op hF h0)
    · rw [if_neg h0]
      rcases hF.e (o.op - 20) (rgV x o.b) nilV ⟨by omega, by omega, (rg o.b).m, (VG.nil 0 0).m⟩ with e | e | e | e
      · exact absurd e h0
      · exact .inl e
      · exact .inr (.inl e)
      · exact .inr (.inr (.inr e))
  · rw [if_neg e30]
    by_cases h0 : (F (o.op - 20) (rgV x o.b) (rgV x o.c)).2 = 0
    · rw [if_pos h0]; exact same (VG.op hF h0)
    · rw [if_neg h0]
      rcases hF.e (o.op - 20) (rgV x o.b) (rgV x o.c) ⟨by omega, by omega, (rg o.b).m, (rg o.c).m⟩ with e | e | e | e
      · exact absurd e h0
      · exact .inl e
      · exact .inr (.inl e)
      · exact .inr (.inr (.inr e))
theorem newRegs_len {p r : Int} {args : List Vl} (h0 : 0 ≤ p) (hr : p ≤ r) : ((newRegs p r args).length : Int) = r := by
  simp [newRegs]
  omega
theorem instr_9 {f : Fd} {o : Od} {i : Nat} (h : instrB f o i = true) (e : o.op = 9) : 0 ≤ o.a ∧ o.a < f.r ∧ 0 ≤ o.b ∧ o.b < f.is.length := by
  simp [instrB, fieldsR, e, belB] at h
  omega
theorem instr_8 {f : Fd} {o : Od} {i : Nat} (h : instrB f o i = true) (e : o.op = 8) : 0 ≤ o.a ∧ o.a < f.is.length := by
  simp [instrB, fieldsR, e, belB] at h
  omega
theorem instr_10 {f : Fd} {o : Od} {i : Nat} (h : instrB f o i = true) (e : o.op = 10) : 0 ≤ o.a ∧ o.a ≤ i := by
  simp [instrB, fieldsR, e, frB] at h
  omega
theorem instr_11 {f : Fd} {o : Od} {i : Nat} (h : instrB f o i = true) (e : o.op = 11) : 0 ≤ o.a ∧ o.a < f.r ∧ 0 ≤ o.b ∧ o.b < f.r ∧ 0 ≤ o.c ∧ o.c ≤ 5 ∧ 0 ≤ wrap64 (o.b + o.c) ∧ wrap64 (o.b + o.c) < f.r := by
  simp [instrB, fieldsR, e, belB, argB, frB] at h
  omega
theorem VG.fn {nt nf : Nat} {v : Vl} (h : VG nt nf v) (hk : v.k = 5) : 0 ≤ v.n ∧ v.n.toNat < nf := by
  have h0 : 0 ≤ v.n := by
    have := h.m
    rw [hk] at this
    unfold mayB at this
    rcases Bool.eq_false_or_eq_true v.s.toList.isEmpty with e | e <;> simp [e] at this
    omega
  have := h.f hk
  omega
/-- H4: a step leaves a state that may be. -/
theorem step_good {F : Int → Vl → Vl → Vl × Int} (hF : OpF F) {fs : List Fd} {main : Int} (hp : progB fs main = true) {s : St} (h : Good fs s) (hen : s.en = 0) (h60 : s.st < 60000) : Good fs (stepR F fs s) := by
  obtain ⟨ini, x, e⟩ := h.top
  have hx := h.fg x (by rw [e]; simp)
  obtain ⟨f, o, hf, hq, ho, hi, hk, k1, k2, k3, k4, k5, k6⟩ := hx.order hp
  have hgl : s.fr.getLast? = some x := by rw [e]; simp
  have hdl : s.fr.dropLast = ini := by rw [e]; simp
  have hpl := k3
  have keep : ∀ {y : Frm}, y.d = x.d → FG fs s.tb.length y → Good fs { s with fr := ini ++ [y], st := s.st + 1 } := fun hd hy =>
    h.setTop e (tb := s.tb) (out := s.out) hd hy (Nat.le_refl _) h.t2 h.tg rfl h60 (by omega) h.o2 hen
  have fail : ∀ {c : Int}, c = 1 ∨ c = 3 ∨ c = 4 ∨ c = 7 → Good fs { s with st := s.st + 1, en := 2, er := c } := fun hc => by
    have hs1 := h.s1
    have ho1 := h.o1
    refine ⟨h.n1, h.n2, h.dg, h.fg, h.t2, h.tg, by show 0 ≤ s.st + 1; omega, by show s.st + 1 ≤ 60000; omega, by show (s.out.length : Int) ≤ s.st + 1; omega, h.o2, .inr (.inr ⟨rfl, hc, ?_⟩)⟩
    rcases h.e with h1 | h1 | h1
    · exact h1.2.2
    · have := h1.1; omega
    · have := h1.1; omega
  unfold stepR
  rw [hgl]
  simp only [ho, hdl]
  unfold doR
  by_cases e8 : o.op = 8 ∨ o.op = 10
  · rw [if_pos e8]
    refine keep rfl (hx.at hf ?_ ?_)
    · rcases e8 with e8 | e8
      · exact (instr_8 hi e8).1
      · exact (instr_10 hi e8).1
    · rcases e8 with e8 | e8
      · exact (instr_8 hi e8).2
      · have := (instr_10 hi e8).2; omega
  rw [if_neg e8]
  have n8 : ¬ o.op = 8 := fun q => e8 (.inl q)
  have n10 : ¬ o.op = 10 := fun q => e8 (.inr q)
  by_cases e9 : o.op = 9
  · rw [if_pos e9]
    obtain ⟨_, _, q3, q4⟩ := instr_9 hi e9
    have := k6 n8 n10 (by omega)
    refine keep rfl (hx.at hf ?_ ?_)
    · split <;> omega
    · split <;> omega
  rw [if_neg e9]
  by_cases e11 : o.op = 11
  · rw [if_pos e11]
    by_cases hk5 : (rgV x o.b).k = 5
    · rw [if_pos hk5]
      by_cases h40 : ini.length + 1 = 40
      · rw [if_pos h40]; exact fail (.inl rfl)
      · rw [if_neg h40]
        obtain ⟨v0, v1⟩ := (VG.rg hx o.b).fn hk5
        obtain ⟨q1, q2, q3, q4, _⟩ := instr_11 hi e11
        have h1 := k6 n8 n10 (by omega)
        obtain ⟨g, hg⟩ : ∃ g, fs[(rgV x o.b).n.toNat]? = some g := ⟨fs[(rgV x o.b).n.toNat], by simp [v1]⟩
        have hgk := prog_fn hp hg
        have hb := keep (y := { x with pc := x.pc + 1 }) rfl (hx.at hf (by omega) h1)
        refine ⟨by simp, ?_, ?_, ?_, h.t2, h.tg, hb.s1, hb.s2, hb.o1, h.o2, hb.e⟩
        · have := h.n2
          rw [e] at this
          simp at this ⊢
          omega
        · show DG 1 (ini ++ [{ x with pc := x.pc + 1 }, _])
          have e2 : ∀ (a b : Frm), ini ++ [a, b] = (ini ++ [a]) ++ [b] := fun a b => by simp
          rw [e2, DG.append]
          refine ⟨hb.dg, q1, ?_⟩
          simp only [List.getLast?_append, List.getLast?_singleton, Option.some_or]
          show o.a < (x.rs.length : Int)
          omega
        · intro z hz
          have e2 : ∀ (a b : Frm), ini ++ [a, b] = (ini ++ [a]) ++ [b] := fun a b => by simp
          rw [show ({ s with fr := ini ++ [{ x with pc := x.pc + 1 }, newF fs (rgV x o.b).n o.a ((x.rs.drop (o.b.toNat + 1)).take o.c.toNat)], st := s.st + 1 } : St).fr = (ini ++ [{ x with pc := x.pc + 1 }]) ++ [newF fs (rgV x o.b).n o.a ((x.rs.drop (o.b.toNat + 1)).take o.c.toNat)] from e2 _ _] at hz
          rcases List.mem_append.1 hz with hz | hz
          · exact hb.fg z hz
          · simp only [List.mem_singleton] at hz
            subst hz
            refine ⟨g, hg, v0, Int.le_refl _, ?_, ?_, ?_⟩
            · show (0 : Int) < _
              have := hgk.i1; omega
            · simp only [newF, hg]
              exact newRegs_len hgk.p0 hgk.pr
            · intro v hv
              simp only [newF, hg, newRegs] at hv
              rcases List.mem_append.1 hv with hv | hv
              · exact k5 v (List.mem_of_mem_drop (List.mem_of_mem_take (List.mem_of_mem_take hv)))
              · rw [List.eq_of_mem_replicate hv]; exact VG.nil _ _
    · rw [if_neg hk5]; exact fail (.inr (.inl rfl))
  rw [if_neg e11]
  by_cases e12 : o.op = 12
  · rw [if_pos e12]
    have hb := keep (y := x) rfl hx
    have hdg := h.dg
    rw [e, DG.append] at hdg
    cases hl : ini.getLast? with
    | none =>
      have e0 : ini = [] := List.getLast?_eq_none_iff.1 hl
      subst e0
      simp only [List.nil_append] at e
      refine ⟨h.n1, h.n2, h.dg, h.fg, h.t2, h.tg, hb.s1, hb.s2, hb.o1, h.o2, .inr (.inl ⟨rfl, ?_, VG.rg hx _⟩)⟩
      rcases h.e with h1 | h1 | h1
      · exact h1.2.1
      · have := h1.1; omega
      · have := h1.1; omega
    | some y =>
      obtain ⟨ini', rfl⟩ : ∃ l, ini = l ++ [y] := by
        have hne : ini ≠ [] := fun q => by rw [q] at hl; simp at hl
        refine ⟨ini.dropLast, ?_⟩
        rw [List.getLast?_eq_some_getLast hne] at hl
        cases hl
        exact (List.dropLast_concat_getLast hne).symm
      have hy := h.fg y (by rw [e]; simp)
      simp only [List.dropLast_concat]
      have hdg2 := hdg.1
      rw [DG.append] at hdg2
      refine ⟨by simp, ?_, ?_, ?_, h.t2, h.tg, hb.s1, hb.s2, hb.o1, h.o2, hb.e⟩
      · have := h.n2
        rw [e] at this
        simp at this ⊢
        omega
      · show DG 1 (ini' ++ [putR y x.d (rgV x o.a)])
        rw [DG.append]
        exact ⟨hdg2.1, hdg2.2⟩
      · intro z hz
        rcases List.mem_append.1 hz with hz | hz
        · exact h.fg z (by rw [e]; simp [hz])
        · simp only [List.mem_singleton] at hz
          subst hz
          exact hy.put _ (VG.rg hx _)
  rw [if_neg e12]
  have := plain_good hF hp (o := o) (out := s.out) hx hf hi h.t2 h.tg h.o2 n8 e9 n10 e11 e12
  cases hr : plainR F fs o x s.tb s.out with
  | inl c => rw [hr] at this; simp only; exact fail this
  | inr r =>
    obtain ⟨y, tb, out⟩ := r
    rw [hr] at this
    obtain ⟨a1, a2, a3, a4, a5, a6, a7, a8, a9⟩ := this
    simp only
    refine h.setTop e (y := { y with pc := y.pc + 1 }) a3 (a4.at (f := f) (by rw [a2]; exact hf) (by rw [a1]; omega) (by rw [a1]; exact k6 n8 n10 e12)) a5 a6 a7 rfl h60 a8 a9 hen
end Go.Proofs.YthdhgfpidhbdiaaGreatDoor
namespace Go.Proofs.YthdhgfpidhbdiaaGreatDoor
open Go.RowKit
open Go

set_option linter.unusedSectionVars false
variable [DecidableEq Vl]


/-- What lay there is left alone, but for some blocks. -/
structure Keeps (S : Nat → Prop) (W W' : World) : Prop where
  os : W'.os = W.os
  tape : W'.tape = W.tape
  output : W'.output = W.output
  size : W.heap.size ≤ W'.heap.size
  block : ∀ k, k < W.heap.size → ¬ S k → W'.heap[k]? = W.heap[k]?
theorem Keeps.refl (S : Nat → Prop) (W : World) : Keeps S W W := ⟨rfl, rfl, rfl, Nat.le_refl _, fun _ _ _ => rfl⟩
theorem Keeps.trans {S : Nat → Prop} {a b c : World} (h : Keeps S a b) (k : Keeps S b c) : Keeps S a c :=
  ⟨k.os.trans h.os, k.tape.trans h.tape, k.output.trans h.output, Nat.le_trans h.size k.size, fun i hi hs => (k.block i (Nat.lt_of_lt_of_le hi h.size) hs).trans (h.block i hi hs)⟩
theorem Keeps.mono {S S' : Nat → Prop} {a b : World} (h : Keeps S a b) (hs : ∀ k, k < a.heap.size → S k → S' k) : Keeps S' a b := ⟨h.os, h.tape, h.output, h.size, fun k hk hn => h.block k hk fun c => hn (hs k hk c)⟩
theorem Keeps.then {S S' : Nat → Prop} {a b c : World} (h : Keeps S a b) (k : Keeps S' b c) (hs : ∀ j, j < a.heap.size → S' j → S j) : Keeps S a c :=
  ⟨k.os.trans h.os, k.tape.trans h.tape, k.output.trans h.output, Nat.le_trans h.size k.size, fun i hi hn => (k.block i (Nat.lt_of_lt_of_le hi h.size) fun q => hn (hs i hi q)).trans (h.block i hi hn)⟩
theorem Keeps.of_below {S : Nat → Prop} {a b : World} (h : Below a.heap.size a b) : Keeps S a b := ⟨h.os, h.tape, h.output, h.size, fun k hk _ => h.block k hk⟩
theorem Keeps.grown {a b : World} {row : Option Nat} (h : a.grownBy b row) : Keeps (fun k => some k = row) a b := ⟨h.os, h.tape, h.output, h.size, fun k hk hn => h.block k hk hn⟩
theorem Keeps.alloc {S : Nat → Prop} {a b : World} (h : Keeps S a b) (o : Obj) : Keeps S a (b.alloc o) := h.trans (Keeps.of_below ((Below.refl _ _).alloc (Nat.le_refl _) _))
theorem Keeps.drew {S : Nat → Prop} {a b : World} (h : Keeps S a b) : Keeps S a b.drew := h.trans (Keeps.of_below ((Below.refl _ _).drew))
theorem Keeps.set {S : Nat → Prop} {a b : World} (h : Keeps S a b) (B i : Nat) (v : Value) (hB : B < a.heap.size → S B) : Keeps S a (b.setCell ⟨B, i, none⟩ v) :=
  h.then (Keeps.grown (Lib.grownBy_setCell b B i v)) (fun j hj e => by cases e; exact hB hj)
theorem Keeps.below {S : Nat → Prop} {a b : World} {m : Nat} (h : Keeps S a b) (hm : m ≤ a.heap.size) (hs : ∀ k, k < m → ¬ S k) : Below m a b := ⟨h.os, h.tape, h.output, h.size, fun k hk => h.block k (by omega) (hs k hk)⟩
theorem Keeps.cell {S : Nat → Prop} {a b : World} (h : Keeps S a b) {g o : Nat} {v : Value} (hc : a.cell? ⟨g, o, none⟩ = some v) (hs : ¬ S g) : b.cell? ⟨g, o, none⟩ = some v :=
  (World.cell?_of_block (a := ⟨g, o, none⟩) (h.block g (World.block_lt_of_cell? _ _ hc) hs)).trans hc

theorem block_lt {W : World} {B : Nat} {o : Obj} (h : W.heap[B]? = some o) : B < W.heap.size := (Array.getElem?_eq_some_iff.1 h).1
/-- From one state of a machine to another one: all but its own is left alone, its own grows by new blocks alone. -/
structure MK (O : List Nat) (W : World) (O' : List Nat) (W' : World) : Prop where
  k : Keeps (· ∈ O) W W'
  o : ∀ k ∈ O', k ∈ O ∨ W.heap.size ≤ k
theorem MK.trans {O O1 O2 : List Nat} {W W1 W2 : World} (h : MK O W O1 W1) (k : MK O1 W1 O2 W2) : MK O W O2 W2 := by
  refine ⟨h.k.then k.k (fun j hj h1 => ?_), fun j hj => ?_⟩
  · rcases h.o j h1 with h2 | h2
    · exact h2
    · omega
  · rcases k.o j hj with h2 | h2
    · exact h.o j h2
    · exact .inr (Nat.le_trans h.k.size h2)
theorem MK.below {O : List Nat} {W W' : World} (hb : Below W.heap.size W W') : MK O W O W' := ⟨Keeps.of_below hb, fun _ h => .inl h⟩
theorem MK.refl (O : List Nat) (W : World) : MK O W O W := ⟨Keeps.refl _ _, fun _ h => .inl h⟩
theorem MK.box {O O' : List Nat} {W W' : World} (h : MK O W O' W') {t : Nat} {o : Obj} (g : W.heap[t]? = some o) (hn : t ∉ O) : W'.heap[t]? = some o ∧ t ∉ O' := by
  refine ⟨(h.k.block t (block_lt g) hn).trans g, fun h1 => ?_⟩
  rcases h.o t h1 with h2 | h2
  · exact hn h2
  · have := block_lt g
    omega

/-- A row in a block of its own. -/
def OwnR (W : World) (g : Nat) (e : TypeId) (sz n cap : Nat) (xs : List Value) : Prop :=
  xs.length = n * sz ∧ ∃ cur, W.heap[g]? = some (.cells cur e (0, 0)) ∧ n ≤ cap ∧ cap ≤ maxLen ∧ cur.size = cap * sz ∧ cur.toList.take (n * sz) = xs
theorem OwnR.owns {W : World} {g : Nat} {e : TypeId} {sz n cap base : Nat} {xs : List Value} (h : OwnR W g e sz n cap xs) (hb : base ≤ g) : W.ownsRow base e sz (.slice (some ⟨g, 0, none⟩) n cap) n xs := by
  obtain ⟨h1, cur, h2, h3, h4, h5, h6⟩ := h
  exact ⟨h1, .inr ⟨g, cap, cur, rfl, hb, h2, h3, h4, h5, h6⟩⟩
theorem OwnR.of {W : World} {g : Nat} {e : TypeId} {sz n cap base : Nat} {xs : List Value} (h : W.ownsRow base e sz (.slice (some ⟨g, 0, none⟩) n cap) n xs) : OwnR W g e sz n cap xs ∧ base ≤ g := by
  obtain ⟨h1, h2⟩ := h
  rcases h2 with ⟨e, _⟩ | ⟨g', cap', cur, e, hb, h2, h3, h4, h5, h6⟩
  · cases e
  · cases e; exact ⟨⟨h1, cur, h2, h3, h4, h5, h6⟩, hb⟩
theorem OwnR.same {W W' : World} {g : Nat} {e : TypeId} {sz n cap : Nat} {xs : List Value} (h : OwnR W g e sz n cap xs) (hs : W'.heap[g]? = W.heap[g]?) : OwnR W' g e sz n cap xs := by
  obtain ⟨h1, cur, h2, hr⟩ := h
  exact ⟨h1, cur, hs.trans h2, hr⟩
theorem OwnR.lt {W : World} {g : Nat} {e : TypeId} {sz n cap : Nat} {xs : List Value} (h : OwnR W g e sz n cap xs) : g < W.heap.size := by
  obtain ⟨h1, cur, h2, hr⟩ := h
  exact block_lt h2
theorem OwnR.cell {W : World} {g : Nat} {e : TypeId} {sz n cap : Nat} {xs : List Value} (h : OwnR W g e sz n cap xs) {j : Nat} {v : Value} (hv : xs[j]? = some v) : W.cell? ⟨g, j, none⟩ = some v ∧ W.frozen? ⟨g, j, none⟩ = false := by
  obtain ⟨h1, cur, h2, h3, h4, h5, h6⟩ := h
  have hj := (List.getElem?_eq_some_iff.1 hv).1
  rw [← h6, List.getElem?_take_of_lt (by omega)] at hv
  have hc : cur[j]? = some v := by simpa using hv
  exact ⟨cell_block h2 hc, frozen_block h2⟩
/-- A cell is set. -/
theorem OwnR.set {W : World} {g : Nat} {e : TypeId} {sz n cap : Nat} {xs : List Value} (h : OwnR W g e sz n cap xs) (j : Nat) (v : Value) : OwnR (W.setCell ⟨g, j, none⟩ v) g e sz n cap (xs.set j v) := by
  obtain ⟨h1, cur, h2, h3, h4, h5, h6⟩ := h
  refine ⟨by simpa using h1, _, set_block v h2, h3, h4, by simpa using h5, ?_⟩
  rw [Array.toList_setIfInBounds, List.take_set, h6]
/-- Fewer of them. -/
theorem OwnR.less {W : World} {g : Nat} {e : TypeId} {sz n cap : Nat} {xs : List Value} (h : OwnR W g e sz n cap xs) {m : Nat} (hm : m ≤ n) : OwnR W g e sz m cap (xs.take (m * sz)) := by
  obtain ⟨h1, cur, h2, h3, h4, h5, h6⟩ := h
  have hmn : m * sz ≤ n * sz := Nat.mul_le_mul_right _ hm
  refine ⟨by rw [List.length_take]; omega, cur, h2, by omega, h4, h5, ?_⟩
  rw [← h6, List.take_take, Nat.min_eq_left hmn]

/-- A row of values that lies apart from O. -/
def Rw (W : World) (O : List Nat) (sv : Value) (xs : List Vl) : Prop :=
  ∃ (a : Option Addr) (cap : Nat), sv = .slice a xs.length cap ∧ xs.length ≤ maxLen ∧
    (xs ≠ [] → ∃ b off, a = some ⟨b, off, none⟩ ∧ b ∉ O ∧ b < W.heap.size ∧ ∀ j x, xs[j]? = some x → Three W b (off + j * 3) x)
theorem Rw.row {W : World} {O : List Nat} {sv : Value} {xs : List Vl} (h : Rw W O sv xs) : Row W.heap.size W sv xs := by
  obtain ⟨a, cap, e, hl, hx⟩ := h
  refine ⟨a, cap, e, hl, fun hne => ?_⟩
  obtain ⟨b, off, ea, _, hb, hc⟩ := hx hne
  exact ⟨b, off, ea, hb, hc⟩
theorem Rw.keep {W W' : World} {O O' : List Nat} {sv : Value} {xs : List Vl} (h : Rw W O sv xs) (k : MK O W O' W') : Rw W' O' sv xs := by
  obtain ⟨a, cap, e, hl, hx⟩ := h
  refine ⟨a, cap, e, hl, fun hne => ?_⟩
  obtain ⟨b, off, ea, hn, hb, hc⟩ := hx hne
  refine ⟨b, off, ea, fun h1 => ?_, Nat.lt_of_lt_of_le hb k.k.size, fun j x hj => ?_⟩
  · rcases k.o b h1 with h2 | h2
    · exact hn h2
    · omega
  · obtain ⟨t1, t2, t3⟩ := hc j x hj
    exact ⟨k.k.cell t1 hn, k.k.cell t2 hn, k.k.cell t3 hn⟩

theorem Rw.keepA {W W' : World} {O O' A : List Nat} {sv : Value} {xs : List Vl} (h : Rw W (O ++ A) sv xs) (k : MK O W O' W') : Rw W' (O' ++ A) sv xs := by
  obtain ⟨a, cap, e, hl, hx⟩ := h
  refine ⟨a, cap, e, hl, fun hne => ?_⟩
  obtain ⟨b, off, ea, hn, hb, hc⟩ := hx hne
  simp only [List.mem_append, not_or] at hn
  refine ⟨b, off, ea, fun h1 => ?_, Nat.lt_of_lt_of_le hb k.k.size, fun j x hj => ?_⟩
  · rcases List.mem_append.1 h1 with h1 | h1
    · rcases k.o b h1 with h2 | h2
      · exact hn.1 h2
      · omega
    · exact hn.2 h1
  · obtain ⟨t1, t2, t3⟩ := hc j x hj
    exact ⟨k.k.cell t1 hn.1, k.k.cell t2 hn.1, k.k.cell t3 hn.1⟩
/-- A frame with its registers' block; a table with its two slices. -/
structure Fw where
  x : Frm
  g : Nat
  c : Nat
structure Tw where
  t : Tb
  a : Value
  b : Value
abbrev Fw.cells (q : Fw) : List Value := [.int .i64 q.x.f, .int .i64 q.x.pc, .int .i64 q.x.d, .slice (some ⟨q.g, 0, none⟩) q.x.rs.length q.c]
def frCells (l : List Fw) : List Value := l.flatMap Fw.cells
def tbCells (l : List Tw) : List Value := l.flatMap fun q => [q.a, q.b]
structure Mp where
  B : Nat
  F : Nat
  fc : Nat
  T : Nat
  tc : Nat
  U : Nat
  uc : Nat
  fw : List Fw
  tw : List Tw
  ap : List Nat
def Mp.own (p : Mp) : List Nat := p.B :: p.F :: p.T :: p.U :: p.fw.map Fw.g
abbrev mcb (fv : Value) (mn : Int) (p : Mp) (nf nt nu : Nat) (st en er k n : Int) (t : ByteArray) : Obj :=
  .cells #[fv, .int .i64 mn, .slice (some ⟨p.F, 0, none⟩) nf p.fc, .slice (some ⟨p.T, 0, none⟩) nt p.tc, .slice (some ⟨p.U, 0, none⟩) nu p.uc, .int .i64 st, .int .i64 en, .int .i64 er, .int .i64 k, .int .i64 n, .string t] 46
/-- The machine. -/
structure Mc (w0 : World) (p : Mp) (fv : Value) (mn : Int) (s : St) (W : World) : Prop where
  box : W.heap[p.B]? = some (mcb fv mn p s.fr.length s.tb.length s.out.length s.st s.en s.er s.la.k s.la.n s.la.s)
  fo : OwnR W p.F 50 4 s.fr.length p.fc (frCells p.fw)
  to : OwnR W p.T 57 2 s.tb.length p.tc (tbCells p.tw)
  uo : OwnR W p.U 9 1 s.out.length p.uc (s.out.map Value.string)
  rg : ∀ q ∈ p.fw, OwnR W q.g 30 3 q.x.rs.length q.c (flat q.x.rs)
  hf : p.fw.map Fw.x = s.fr
  ht : p.tw.map Tw.t = s.tb
  tr : ∀ q ∈ p.tw, Rw W (p.own ++ p.ap) q.a q.t.ks ∧ Rw W (p.own ++ p.ap) q.b q.t.vs
  al : ∀ k ∈ p.ap, k < W.heap.size ∧ k ∉ p.own
  nd : p.own.Nodup
  lo : ∀ k ∈ p.own, w0.heap.size ≤ k
  bl : Below w0.heap.size w0 W
theorem below_keep {O : List Nat} {w0 V W' : World} (hb : Below w0.heap.size w0 V) (hk : Keeps (· ∈ O) V W') (hO : ∀ k ∈ O, w0.heap.size ≤ k) : Below w0.heap.size w0 W' :=
  ⟨hk.os.trans hb.os, hk.tape.trans hb.tape, hk.output.trans hb.output, Nat.le_trans hb.size hk.size, fun k hk' => (hk.block k (Nat.lt_of_lt_of_le hk' hb.size) (fun h => by have := hO k h; omega)).trans (hb.block k hk')⟩
theorem Mc.lt {w0 : World} {p : Mp} {fv : Value} {mn : Int} {s : St} {W : World} (h : Mc w0 p fv mn s W) : ∀ k ∈ p.own, k < W.heap.size := by
  intro k hk
  simp only [Mp.own, List.mem_cons, List.mem_map] at hk
  rcases hk with rfl | rfl | rfl | rfl | ⟨q, hq, rfl⟩
  · exact block_lt h.box
  · exact h.fo.lt
  · exact h.to.lt
  · exact h.uo.lt
  · exact (h.rg q hq).lt
theorem Mc.on {w0 : World} {p : Mp} {fv : Value} {mn : Int} {s : St} {W W' : World} (h : Mc w0 p fv mn s W) (hb : Below W.heap.size W W') : Mc w0 p fv mn s W' := by
  have hl := h.lt
  refine ⟨block_below hb h.box, h.fo.same (hb.block _ (hl _ (by simp [Mp.own]))), h.to.same (hb.block _ (hl _ (by simp [Mp.own]))), h.uo.same (hb.block _ (hl _ (by simp [Mp.own]))), fun q hq => (h.rg q hq).same (hb.block _ (h.rg q hq).lt), h.hf, h.ht, fun q hq => ⟨(h.tr q hq).1.keepA (MK.below hb), (h.tr q hq).2.keepA (MK.below hb)⟩, fun k hk => ⟨Nat.lt_of_lt_of_le (h.al k hk).1 hb.size, (h.al k hk).2⟩, h.nd, h.lo, ext_trans h.bl hb⟩
/-- A new block that its tables lie apart from. -/
theorem Mc.more {w0 : World} {p : Mp} {fv : Value} {mn : Int} {s : St} {W W' : World} (h : Mc w0 p fv mn s W) (hb : Below W.heap.size W W') {c : Nat} (h1 : W.heap.size ≤ c) (h2 : c < W'.heap.size) : Mc w0 { p with ap := c :: p.ap } fv mn s W' := by
  have h' := h.on hb
  have hw : ∀ {sv : Value} {xs : List Vl}, Rw W (p.own ++ p.ap) sv xs → Rw W' (p.own ++ c :: p.ap) sv xs := fun {sv xs} hr => by
    obtain ⟨a, cap, e, hl, hx⟩ := hr
    refine ⟨a, cap, e, hl, fun hne => ?_⟩
    obtain ⟨b, off, ea, hn, hbl, hc⟩ := hx hne
    refine ⟨b, off, ea, fun h3 => hn ?_, Nat.lt_of_lt_of_le hbl hb.size, fun j x hj => (hc j x hj).below hb hbl⟩
    simp only [List.mem_append, List.mem_cons] at h3 ⊢
    rcases h3 with h3 | h3 | h3
    · exact .inl h3
    · omega
    · exact .inr h3
  refine ⟨h'.box, h'.fo, h'.to, h'.uo, h'.rg, h'.hf, h'.ht, fun q hq => ⟨hw (h.tr q hq).1, hw (h.tr q hq).2⟩, fun k hk => ?_, h'.nd, h'.lo, h'.bl⟩
  rcases List.mem_cons.1 hk with rfl | hk
  · exact ⟨h2, fun e => by have := h.lt _ e; omega⟩
  · exact h'.al k hk
theorem Mc.less {w0 : World} {p : Mp} {fv : Value} {mn : Int} {s : St} {W : World} {c : Nat} {A : List Nat} (h : Mc w0 p fv mn s W) (e : p.ap = c :: A) : Mc w0 { p with ap := A } fv mn s W := by
  have hw : ∀ {sv : Value} {xs : List Vl}, Rw W (p.own ++ p.ap) sv xs → Rw W (p.own ++ A) sv xs := fun {sv xs} hr => by
    obtain ⟨a, cap, e', hl, hx⟩ := hr
    refine ⟨a, cap, e', hl, fun hne => ?_⟩
    obtain ⟨b, off, ea, hn, hbl, hc⟩ := hx hne
    refine ⟨b, off, ea, fun h3 => hn ?_, hbl, hc⟩
    rw [e]
    simp only [List.mem_append, List.mem_cons] at h3 ⊢
    rcases h3 with h3 | h3
    · exact .inl h3
    · exact .inr (.inr h3)
  exact ⟨h.box, h.fo, h.to, h.uo, h.rg, h.hf, h.ht, fun q hq => ⟨hw (h.tr q hq).1, hw (h.tr q hq).2⟩, fun k hk => h.al k (by rw [e]; exact List.mem_cons_of_mem _ hk), h.nd, h.lo, h.bl⟩
/-- What lies apart is written. -/
theorem Mc.wrote {w0 : World} {p : Mp} {fv : Value} {mn : Int} {s : St} {W W' : World} {c : Nat} (h : Mc w0 p fv mn s W) (hc : c ∈ p.ap) (hw0 : w0.heap.size ≤ c) (hk : Keeps (· = c) W W') : Mc w0 p fv mn s W' := by
  have hn := (h.al c hc).2
  have hs : ∀ b ∈ p.own, W'.heap[b]? = W.heap[b]? := fun b hb => hk.block b (h.lt b hb) (fun e => hn (e ▸ hb))
  have hw : ∀ {sv : Value} {xs : List Vl}, Rw W (p.own ++ p.ap) sv xs → Rw W' (p.own ++ p.ap) sv xs := fun {sv xs} hr => by
    obtain ⟨a, cap, e', hl, hx⟩ := hr
    refine ⟨a, cap, e', hl, fun hne => ?_⟩
    obtain ⟨b, off, ea, hn', hbl, hcc⟩ := hx hne
    have hbc : ¬ b = c := fun e => hn' (by rw [e]; exact List.mem_append_right _ hc)
    refine ⟨b, off, ea, hn', Nat.lt_of_lt_of_le hbl hk.size, fun j x hj => ?_⟩
    obtain ⟨t1, t2, t3⟩ := hcc j x hj
    exact ⟨hk.cell t1 hbc, hk.cell t2 hbc, hk.cell t3 hbc⟩
  refine ⟨(hs _ (by simp [Mp.own])).trans h.box, h.fo.same (hs _ (by simp [Mp.own])), h.to.same (hs _ (by simp [Mp.own])), h.uo.same (hs _ (by simp [Mp.own])), fun q hq => (h.rg q hq).same (hs _ ?_), h.hf, h.ht, fun q hq => ⟨hw (h.tr q hq).1, hw (h.tr q hq).2⟩, fun k hk' => ⟨Nat.lt_of_lt_of_le (h.al k hk').1 hk.size, (h.al k hk').2⟩, h.nd, h.lo, ?_⟩
  · simp only [Mp.own, List.mem_cons, List.mem_map]
    exact .inr (.inr (.inr (.inr ⟨q, hq, rfl⟩)))
  · exact ⟨hk.os.trans h.bl.os, hk.tape.trans h.bl.tape, hk.output.trans h.bl.output, Nat.le_trans h.bl.size hk.size, fun k hk' => (hk.block k (Nat.lt_of_lt_of_le hk' h.bl.size) (fun e => by omega)).trans (h.bl.block k hk')⟩
theorem MK.set {O : List Nat} {W : World} {g i : Nat} {v : Value} (hg : g ∈ O) : MK O W O (W.setCell ⟨g, i, none⟩ v) := ⟨(Keeps.refl _ _).set g i v (fun _ => hg), fun _ h => .inl h⟩
end Go.Proofs.YthdhgfpidhbdiaaGreatDoor
namespace Go.Proofs.YthdhgfpidhbdiaaGreatDoor
open Go.RowKit
open Go

set_option linter.unusedSectionVars false
variable [DecidableEq Vl]

section
variable {w0 : World} {p : Mp} {fv : Value} {mn : Int} {s : St} {W : World}
/-- The blocks of its own are apart. -/
structure Apart4 (p : Mp) : Prop where
  bf : p.B ≠ p.F
  bt : p.B ≠ p.T
  bu : p.B ≠ p.U
  ft : p.F ≠ p.T
  fu : p.F ≠ p.U
  tu : p.T ≠ p.U
  gb : ∀ q ∈ p.fw, q.g ≠ p.B
  gf : ∀ q ∈ p.fw, q.g ≠ p.F
  gt : ∀ q ∈ p.fw, q.g ≠ p.T
  gu : ∀ q ∈ p.fw, q.g ≠ p.U
  gg : (p.fw.map Fw.g).Nodup
theorem apart_of (h : p.own.Nodup) : Apart4 p := by
  simp only [Mp.own, List.nodup_cons, List.mem_cons, not_or, List.mem_map, not_exists, not_and] at h
  obtain ⟨⟨h1, h2, h3, h4⟩, ⟨h5, h6, h7⟩, ⟨h8, h9⟩, h10, h11⟩ := h
  exact ⟨h1, h2, h3, h5, h6, h8, fun q hq e => h4 q hq e, fun q hq e => h7 q hq e, fun q hq e => h9 q hq e, fun q hq e => h10 q hq e, h11⟩
theorem nodup_of (h : Apart4 p) : p.own.Nodup := by
  simp only [Mp.own, List.nodup_cons, List.mem_cons, not_or, List.mem_map, not_exists, not_and]
  exact ⟨⟨h.bf, h.bt, h.bu, fun q hq e => h.gb q hq e⟩, ⟨h.ft, h.fu, fun q hq e => h.gf q hq e⟩, ⟨h.tu, fun q hq e => h.gt q hq e⟩, fun q hq e => h.gu q hq e, h.gg⟩
theorem own_B : p.B ∈ p.own := by simp [Mp.own]
theorem own_F : p.F ∈ p.own := by simp [Mp.own]
theorem own_T : p.T ∈ p.own := by simp [Mp.own]
theorem own_U : p.U ∈ p.own := by simp [Mp.own]
theorem own_g {q : Fw} (h : q ∈ p.fw) : q.g ∈ p.own := by
  simp only [Mp.own, List.mem_cons, List.mem_map]
  exact .inr (.inr (.inr (.inr ⟨q, h, rfl⟩)))
/-- The machine anew. -/
theorem Mc.re (h : Mc w0 p fv mn s W) {p' : Mp} {s' : St} {W' : World} (hap : p'.ap = p.ap) (hk : MK p.own W p'.own W') (nd : Apart4 p')
    (box : W'.heap[p'.B]? = some (mcb fv mn p' s'.fr.length s'.tb.length s'.out.length s'.st s'.en s'.er s'.la.k s'.la.n s'.la.s))
    (fo : OwnR W' p'.F 50 4 s'.fr.length p'.fc (frCells p'.fw)) (to : OwnR W' p'.T 57 2 s'.tb.length p'.tc (tbCells p'.tw)) (uo : OwnR W' p'.U 9 1 s'.out.length p'.uc (s'.out.map Value.string))
    (rg : ∀ q ∈ p'.fw, OwnR W' q.g 30 3 q.x.rs.length q.c (flat q.x.rs)) (hf : p'.fw.map Fw.x = s'.fr) (ht : p'.tw.map Tw.t = s'.tb)
    (tr : ∀ q ∈ p'.tw, q ∈ p.tw ∨ (Rw W' (p'.own ++ p.ap) q.a q.t.ks ∧ Rw W' (p'.own ++ p.ap) q.b q.t.vs)) : Mc w0 p' fv mn s' W' := by
  refine ⟨box, fo, to, uo, rg, hf, ht, fun q hq => ?_, fun k hk' => ?_, nodup_of nd, fun k hk' => ?_, below_keep h.bl hk.k h.lo⟩
  · rw [hap]
    rcases tr q hq with h1 | h1
    · exact ⟨(h.tr q h1).1.keepA hk, (h.tr q h1).2.keepA hk⟩
    · exact h1
  · rw [hap] at hk'
    refine ⟨Nat.lt_of_lt_of_le (h.al k hk').1 hk.k.size, fun e => ?_⟩
    rcases hk.o k e with h1 | h1
    · exact (h.al k hk').2 h1
    · have := (h.al k hk').1; omega
  · rcases hk.o k hk' with h1 | h1
    · exact h.lo k h1
    · exact Nat.le_trans h.bl.size h1
/-- Its numbers, how it ended, what it gave. -/
theorem Mc.scal (h : Mc w0 p fv mn s W) {s' : St} (e1 : s'.fr = s.fr) (e2 : s'.tb = s.tb) (e3 : s'.out = s.out) {W' : World} (hk : MK p.own W p.own W') (hoth : ∀ b, b ≠ p.B → W'.heap[b]? = W.heap[b]?)
    (box : W'.heap[p.B]? = some (mcb fv mn p s.fr.length s.tb.length s.out.length s'.st s'.en s'.er s'.la.k s'.la.n s'.la.s)) : Mc w0 p fv mn s' W' := by
  have a := apart_of h.nd
  refine h.re rfl hk a (by rw [e1, e2, e3]; exact box) (by rw [e1]; exact h.fo.same (hoth _ a.bf.symm)) (by rw [e2]; exact h.to.same (hoth _ a.bt.symm)) (by rw [e3]; exact h.uo.same (hoth _ a.bu.symm)) (fun q hq => (h.rg q hq).same (hoth _ (a.gb q hq))) (by rw [e1]; exact h.hf) (by rw [e2]; exact h.ht) (fun q hq => .inl hq)
theorem frCells_append (l m : List Fw) : frCells (l ++ m) = frCells l ++ frCells m := by simp [frCells]
theorem frCells_len (l : List Fw) : (frCells l).length = l.length * 4 := by
  induction l with
  | nil => rfl
  | cons x xs ih => simp [frCells] at ih ⊢; omega
theorem tbCells_append (l m : List Tw) : tbCells (l ++ m) = tbCells l ++ tbCells m := by simp [tbCells]
theorem Mc.len (h : Mc w0 p fv mn s W) : p.fw.length = s.fr.length ∧ p.tw.length = s.tb.length := by
  rw [← h.hf, ← h.ht]; simp
/-- The frame on top. -/
theorem Mc.top (h : Mc w0 p fv mn s W) {ini : List Frm} {x : Frm} (e : s.fr = ini ++ [x]) : ∃ l q, p.fw = l ++ [q] ∧ q.x = x ∧ l.map Fw.x = ini ∧ l.length = ini.length := by
  have hf := h.hf
  rw [e] at hf
  obtain ⟨l, m, h1, h2, h3⟩ := List.map_eq_append_iff.1 hf
  obtain ⟨q, rfl, h4⟩ : ∃ q, m = [q] ∧ q.x = x := by
    cases m with
    | nil => simp at h3
    | cons q m =>
      simp at h3
      exact ⟨q, by rw [h3.2], h3.1⟩
  exact ⟨l, q, h1, h4, h2, by rw [← h2]; simp⟩
/-- Its cells. -/
theorem Mc.topCells (h : Mc w0 p fv mn s W) {l : List Fw} {q : Fw} (e : p.fw = l ++ [q]) :
    W.cell? ⟨p.F, l.length * 4, none⟩ = some (.int .i64 q.x.f) ∧ W.cell? ⟨p.F, l.length * 4 + 1, none⟩ = some (.int .i64 q.x.pc) ∧ W.cell? ⟨p.F, l.length * 4 + 2, none⟩ = some (.int .i64 q.x.d) ∧ W.cell? ⟨p.F, l.length * 4 + 3, none⟩ = some (.slice (some ⟨q.g, 0, none⟩) q.x.rs.length q.c) ∧ W.frozen? ⟨p.F, l.length * 4 + 1, none⟩ = false := by
  have hl := frCells_len l
  have hx : ∀ j v, q.cells[j]? = some v → (frCells p.fw)[l.length * 4 + j]? = some v := fun j v hv => by
    rw [e, frCells_append, List.getElem?_append_right (by omega)]
    simp only [frCells, List.flatMap_cons, List.flatMap_nil, List.append_nil]
    rw [show l.length * 4 + j - (l.flatMap Fw.cells).length = j by have : (l.flatMap Fw.cells).length = l.length * 4 := hl; omega]
    exact hv
  exact ⟨(h.fo.cell (hx 0 _ rfl)).1, (h.fo.cell (hx 1 _ rfl)).1, (h.fo.cell (hx 2 _ rfl)).1, (h.fo.cell (hx 3 _ rfl)).1, (h.fo.cell (hx 1 _ rfl)).2⟩
theorem flat_set (xs : List Vl) (i : Nat) (v : Vl) : flat (xs.set i v) = (((flat xs).set (i * 3) (.int .i64 v.k)).set (i * 3 + 1) (.int .i64 v.n)).set (i * 3 + 2) (.string v.s) := by
  induction xs generalizing i with
  | nil => simp [flat]
  | cons x xs ih =>
    cases i with
    | zero => simp [flat]
    | succ i =>
      have e : ∀ y : Vl, flat (y :: xs) = .int .i64 y.k :: .int .i64 y.n :: .string y.s :: flat xs := fun y => by simp [flat]
      have e' : ∀ (y : Vl) (zs : List Vl), flat (y :: zs) = .int .i64 y.k :: .int .i64 y.n :: .string y.s :: flat zs := fun y zs => by simp [flat]
      rw [List.set_cons_succ, e', ih, e, show (i + 1) * 3 = i * 3 + 1 + 1 + 1 by omega]
      simp only [List.set_cons_succ]
/-- A register of the frame on top is set. -/
theorem Mc.setReg (h : Mc w0 p fv mn s W) {l : List Fw} {q : Fw} (e : p.fw = l ++ [q]) (i : Nat) (v : Vl) (W' : World) (hW : W' = ((W.setCell ⟨q.g, i * 3, none⟩ (.int .i64 v.k)).setCell ⟨q.g, i * 3 + 1, none⟩ (.int .i64 v.n)).setCell ⟨q.g, i * 3 + 2, none⟩ (.string v.s)) :
    ∃ p', p'.B = p.B ∧ p'.ap = p.ap ∧ p'.F = p.F ∧ p'.fw = l ++ [{ q with x := { q.x with rs := q.x.rs.set i v } }] ∧ Mc w0 p' fv mn { s with fr := l.map Fw.x ++ [{ q.x with rs := q.x.rs.set i v }] } W' ∧ MK p.own W p'.own W' := by
  subst hW
  have a := apart_of h.nd
  have hq : q ∈ p.fw := by rw [e]; simp
  have hlen := h.len.1
  rw [e] at hlen
  simp at hlen
  have hown : ({ p with fw := l ++ [{ q with x := { q.x with rs := q.x.rs.set i v } }] } : Mp).own = p.own := by simp [Mp.own, e]
  have hk : MK p.own W p.own (((W.setCell ⟨q.g, i * 3, none⟩ (.int .i64 v.k)).setCell ⟨q.g, i * 3 + 1, none⟩ (.int .i64 v.n)).setCell ⟨q.g, i * 3 + 2, none⟩ (.string v.s)) := ((MK.set (own_g hq)).trans (MK.set (own_g hq))).trans (MK.set (own_g hq))
  have hoth : ∀ b, b ≠ q.g → (((W.setCell ⟨q.g, i * 3, none⟩ (.int .i64 v.k)).setCell ⟨q.g, i * 3 + 1, none⟩ (.int .i64 v.n)).setCell ⟨q.g, i * 3 + 2, none⟩ (.string v.s)).heap[b]? = W.heap[b]? := fun b hb => (set1_other _ _ hb).trans ((set1_other _ _ hb).trans (set1_other _ _ hb))
  refine ⟨{ p with fw := l ++ [{ q with x := { q.x with rs := q.x.rs.set i v } }] }, rfl, rfl, rfl, rfl, h.re rfl (by rw [hown]; exact hk) ?_ ?_ ?_ (h.to.same (hoth _ (a.gt q hq).symm)) (h.uo.same (hoth _ (a.gu q hq).symm)) ?_ (by simp) h.ht (fun q hq => .inl hq), by rw [hown]; exact hk⟩
  · exact apart_of (by rw [hown]; exact h.nd)
  · refine (hoth _ (a.gb q hq).symm).trans ?_
    show _ = some (mcb fv mn p (l.map Fw.x ++ [{ q.x with rs := q.x.rs.set i v }]).length _ _ _ _ _ _ _ _)
    rw [h.box]
    simp [hlen]
  · have := h.fo.same (hoth _ (a.gf q hq).symm)
    show OwnR _ p.F 50 4 (l.map Fw.x ++ [{ q.x with rs := q.x.rs.set i v }]).length p.fc (frCells (l ++ [{ q with x := { q.x with rs := q.x.rs.set i v } }]))
    have e2 : (l.map Fw.x ++ [{ q.x with rs := q.x.rs.set i v }]).length = s.fr.length := by simp [hlen]
    have e3 : frCells (l ++ [{ q with x := { q.x with rs := q.x.rs.set i v } }]) = frCells p.fw := by rw [e, frCells_append, frCells_append]; simp [frCells]
    rw [e2, e3]
    exact this
  · intro z hz
    rcases List.mem_append.1 hz with hz | hz
    · have hz' : z ∈ p.fw := by rw [e]; exact List.mem_append_left _ hz
      refine (h.rg z hz').same (hoth _ ?_)
      have hn := a.gg
      rw [e, List.map_append] at hn
      have := (List.nodup_append.1 hn).2.2 z.g (List.mem_map.2 ⟨z, hz, rfl⟩) q.g (by simp)
      exact this
    · simp only [List.mem_singleton] at hz
      subst hz
      have := (((h.rg q hq).set (i * 3) (.int .i64 v.k)).set (i * 3 + 1) (.int .i64 v.n)).set (i * 3 + 2) (.string v.s)
      rw [← flat_set] at this
      simpa using this
end
end Go.Proofs.YthdhgfpidhbdiaaGreatDoor
