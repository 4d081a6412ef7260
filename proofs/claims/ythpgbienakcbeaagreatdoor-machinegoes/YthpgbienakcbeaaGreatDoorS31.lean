/- The machine's states and steps in plain words. -/
import Derived.Test.YthpgbienakcbeaaGreatDoorS28
import Derived.Test.YthpgbienakcbeaaGreatDoorS15
import Derived.Test.YthpgbienakcbeaaGreatDoorS23
import Derived.Test.YthpgbienakcbeaaGreatDoorS05
namespace Go.Proofs.YthpgbienakcbeaaGreatDoor
open Go Go.RowKit
set_option maxRecDepth 100000
set_option maxHeartbeats 8000000
set_option linter.all false
variable {xs : List Vl} {nt nt' nf : Nat} {fs : List Fd} {W : World}
section
variable [DecidableEq Vl]
structure Frm where
 f : Int
 pc : Int
 d : Int
 rs : List Vl
structure Tb where
 ks : List Vl
 vs : List Vl
structure St where
 fr : List Frm
 tb : List Tb
 out : List ByteArray
 st : Int
 en : Int
 er : Int
 la : Vl
def rgV (x : Frm) (i : Int) : Vl := x.rs[i.toNat]?.getD nilV
def putR (x : Frm) (i : Int) (v : Vl) : Frm := { x with rs := x.rs.set i.toNat v }
def cstV (fs : List Fd) (x : Frm) (i : Int) : Vl := ((fs[x.f.toNat]?).bind fun f => f.cs[i.toNat]?).getD nilV
def tbV (n : Nat) : Vl := if h : n ≤ 1000 then ⟨4, n, E0, by decide, WalkArith.wf_i64 (by omega), by decide⟩ else nilV
def a1a (tb : List Tb) (v : Vl) : Tb := tb[v.n.toNat]?.getD ⟨[], []⟩
def lenG (xs : List Vl) : Nat → Nat → Nat
 | 0, n => n
 | f + 1, n => if numV (n + 1) ∈ xs then lenG xs f (n + 1) else n
def lenZ (xs ys : List Vl) : Nat := if mayT xs ys = true then lenG xs 101 0 else 0
theorem c0t {xs : List Vl} {m : Nat} (h : c3l xs m) : ∀ (f n : Nat), n ≤ m → m ≤ n + f → lenG xs f n = m
 | 0, n, h1, h2 => by simp only [lenG]; omega
 | f + 1, n, h1, h2 => by
  rw [lenG]
  split
  ·rename_i hin
   by_cases e : n = m
   ·subst e; exact absurd hin h.2
   ·exact c0t h f (n + 1) (by omega) (by omega)
  ·rename_i hin
   by_cases e : n = m
   ·exact e
   ·exact absurd (h.1 n (by omega)) hin
theorem c0u {ys : List Vl} {m : Nat} (h : LenT xs ys m) : m = lenZ xs ys := by
 unfold LenT at h
 unfold lenZ
 split at h
 ·rename_i hm
  rw [if_pos hm, c0t h 101 0 (by omega)]
  have := b9g (a2z hm).2 h.1
  have := (a2z hm).2
  omega
 ·rename_i hm
  rw [if_neg hm]; exact h
section
variable (F : Int → Vl → Vl → Vl × Int) (fs : List Fd)
def a4a (o : Od) (x : Frm) (tb : List Tb) (out : List ByteArray) : Int ⊕ (Frm × List Tb × List ByteArray) :=
 if o.op = 1 then .inr (putR x o.a (rgV x o.b), tb, out)
 else if o.op = 2 then .inr (putR x o.a (cstV fs x o.b), tb, out)
 else if o.op = 3 then (if tb.length = 200 then .inl 1 else .inr (putR x o.a (tbV tb.length), tb ++ [⟨[], []⟩], out))
 else if o.op = 4 then (if (rgV x o.b).k = 4 then .inr (putR x o.a (getT (a1a tb (rgV x o.b)).ks (a1a tb (rgV x o.b)).vs (rgV x o.c)), tb, out) else .inl 3)
 else if o.op = 5 then (if (rgV x o.a).k = 4 then (if (setT (a1a tb (rgV x o.a)).ks (a1a tb (rgV x o.a)).vs (rgV x o.b) (rgV x o.c)).2 = 0 then .inr (x, tb.set (rgV x o.a).n.toNat ⟨keysOf (setT (a1a tb (rgV x o.a)).ks (a1a tb (rgV x o.a)).vs (rgV x o.b) (rgV x o.c)).1, a0q (setT (a1a tb (rgV x o.a)).ks (a1a tb (rgV x o.a)).vs (rgV x o.b) (rgV x o.c)).1⟩, out) else .inl (setT (a1a tb (rgV x o.a)).ks (a1a tb (rgV x o.a)).vs (rgV x o.b) (rgV x o.c)).2) else .inl 3)
 else if o.op = 6 then (if (rgV x o.b).k = 3 then .inr (putR x o.a (numV (rgV x o.b).s.size), tb, out) else if (rgV x o.b).k = 4 then .inr (putR x o.a (numV (lenZ (a1a tb (rgV x o.b)).ks (a1a tb (rgV x o.b)).vs)), tb, out) else .inl 3)
 else if o.op = 7 then (if (rgV x o.b).k = 4 then (if (a3j (a1a tb (rgV x o.b)).ks (a1a tb (rgV x o.b)).vs (rgV x o.c)).2 = 0 then .inr (putR x o.a (a3j (a1a tb (rgV x o.b)).ks (a1a tb (rgV x o.b)).vs (rgV x o.c)).1, tb, out) else .inl (a3j (a1a tb (rgV x o.b)).ks (a1a tb (rgV x o.b)).vs (rgV x o.c)).2) else .inl 3)
 else if o.op = 13 then .inr (x, tb, out ++ [a3n (rgV x o.a).k (rgV x o.a).n (rgV x o.a).s])
 else if o.op = 30 ∨ o.op = 31 then (if (F (o.op - 20) (rgV x o.b) nilV).2 = 0 then .inr (putR x o.a (F (o.op - 20) (rgV x o.b) nilV).1, tb, out) else .inl (F (o.op - 20) (rgV x o.b) nilV).2)
 else (if (F (o.op - 20) (rgV x o.b) (rgV x o.c)).2 = 0 then .inr (putR x o.a (F (o.op - 20) (rgV x o.b) (rgV x o.c)).1, tb, out) else .inl (F (o.op - 20) (rgV x o.b) (rgV x o.c)).2)
def a0x (p r : Int) (args : List Vl) : List Vl := args.take p.toNat ++ List.replicate (r.toNat - (args.take p.toNat).length) nilV
def newF (n d : Int) (args : List Vl) : Frm := ⟨n, 0, d, match fs[n.toNat]? with | some f => a0x f.p f.r args | none => []⟩
def doR (o : Od) (ini : List Frm) (x : Frm) (s : St) : Int ⊕ St :=
 if o.op = 8 ∨ o.op = 10 then .inr { s with fr := ini ++ [{ x with pc := o.a }] }
 else if o.op = 9 then .inr { s with fr := ini ++ [{ x with pc := if truthB (rgV x o.a).k (rgV x o.a).n (rgV x o.a).s = true then x.pc + 1 else o.b }] }
 else if o.op = 11 then (if (rgV x o.b).k = 5 then (if ini.length + 1 = 40 then .inl 1 else .inr { s with fr := ini ++ [{ x with pc := x.pc + 1 }, newF fs (rgV x o.b).n o.a ((x.rs.drop (o.b.toNat + 1)).take o.c.toNat)] }) else .inl 3)
 else if o.op = 12 then (match ini.getLast? with | none => .inr { s with en := 1, la := rgV x o.a } | some y => .inr { s with fr := ini.dropLast ++ [putR y x.d (rgV x o.a)] })
 else match a4a F fs o x s.tb s.out with
  | .inl c => .inl c
  | .inr (y, tb, out) => .inr { s with fr := ini ++ [{ y with pc := y.pc + 1 }], tb := tb, out := out }
def orderAt (x : Frm) : Option Od := (fs[x.f.toNat]?).bind fun f => f.is[x.pc.toNat]?
def a6s (s : St) : St :=
 match s.fr.getLast? with
 | none => { s with st := s.st + 1 }
 | some x => match orderAt fs x with
  | none => { s with st := s.st + 1 }
  | some o => match doR F fs o s.fr.dropLast x { s with st := s.st + 1 } with
   | .inl c => { s with st := s.st + 1, en := 2, er := c }
   | .inr t => t
end
structure VG (nt nf : Nat) (v : Vl) : Prop where
 m : mayB v.k v.n v.s = true
 t : v.k = 4 → v.n < nt
 f : v.k = 5 → v.n < nf
def FG (fs : List Fd) (nt : Nat) (x : Frm) : Prop := ∃ f, fs[x.f.toNat]? = some f ∧ 0 ≤ x.f ∧ 0 ≤ x.pc ∧ x.pc < f.is.length ∧ (x.rs.length : Int) = f.r ∧ ∀ v ∈ x.rs, VG nt fs.length v
def DG : Int → List Frm → Prop
 | _, [] => True
 | d, x :: l => 0 ≤ x.d ∧ x.d < d ∧ DG x.rs.length l
structure TG (nt nf : Nat) (t : Tb) : Prop where
 m : mayT t.ks t.vs = true
 k : ∀ v ∈ t.ks, VG nt nf v
 v : ∀ v ∈ t.vs, VG nt nf v
structure Good (fs : List Fd) (s : St) : Prop where
 n1 : 1 ≤ s.fr.length
 n2 : s.fr.length ≤ 40
 dg : DG 1 s.fr
 fg : ∀ x ∈ s.fr, FG fs s.tb.length x
 t2 : s.tb.length ≤ 200
 tg : ∀ t ∈ s.tb, TG s.tb.length fs.length t
 s1 : 0 ≤ s.st
 s2 : s.st ≤ 60000
 o1 : (s.out.length : Int) ≤ s.st
 o2 : ∀ t ∈ s.out, t.size ≤ 300
 e : (s.en = 0 ∧ s.er = 0 ∧ s.la = nilV) ∨ (s.en = 1 ∧ s.er = 0 ∧ VG s.tb.length fs.length s.la) ∨ (s.en = 2 ∧ (s.er = 1 ∨ s.er = 3 ∨ s.er = 4 ∨ s.er = 7) ∧ s.la = nilV)
theorem VG.nil (nt nf : Nat) : VG nt nf nilV := ⟨by simp [mayB, nilV], fun (h : (0 : Int) = 4) => by omega, fun (h : (0 : Int) = 5) => by omega⟩
theorem VG.mono {v : Vl} (h : VG nt nf v) (hn : nt ≤ nt') : VG nt' nf v := ⟨h.m, fun e => by have := h.t e; omega, h.f⟩
theorem TG.mono {t : Tb} (h : TG nt nf t) (hn : nt ≤ nt') : TG nt' nf t := ⟨h.m, fun v hv => (h.k v hv).mono hn, fun v hv => (h.v v hv).mono hn⟩
theorem FG.mono {x : Frm} (h : FG fs nt x) (hn : nt ≤ nt') : FG fs nt' x := by
 obtain ⟨f, h1, h2, h3, h4, h5, h6⟩ := h
 exact ⟨f, h1, h2, h3, h4, h5, fun v hv => (h6 v hv).mono hn⟩
theorem VG.num {i : Nat} : VG nt nf (numV i) := by
 unfold numV
 split
 ·exact ⟨by simp [mayB], fun h => by simp at h, fun h => by simp at h⟩
 ·exact VG.nil _ _
theorem VG.rg {x : Frm} (h : FG fs nt x) (i : Int) : VG nt fs.length (rgV x i) := by
 obtain ⟨f, h1, h2, h3, h4, h5, h6⟩ := h
 unfold rgV
 cases e : x.rs[i.toNat]? with
 | none => exact VG.nil _ _
 | some v => exact h6 v (List.mem_of_getElem? e)
theorem DG.append {x : Frm} : ∀ {l : List Frm} {d : Int}, DG d (l ++ [x]) ↔ DG d l ∧ 0 ≤ x.d ∧ x.d < (match l.getLast? with | some y => (y.rs.length : Int) | none => d)
 | [], d => by simp [DG]
 | y :: l, d => by
  have h := DG.append (x := x) (l := l) (d := y.rs.length)
  simp only [List.cons_append, DG]
  rw [h]
  cases l with
  | nil => simp [DG, and_assoc]
  | cons z l =>
   obtain ⟨q, hq⟩ : ∃ q, (z :: l).getLast? = some q := ⟨_, List.getLast?_eq_some_getLast (by simp)⟩
   rw [List.getLast?_cons_cons, hq]
   simp [and_assoc]
theorem look_in {zs : List (Vl × Vl)} {k : Vl} : look zs k = nilV ∨ look zs k ∈ a0q zs := by
 unfold look
 cases h : zs.find? (fun p => decide (p.1 = k)) with
 | none => exact .inl rfl
 | some p => exact .inr (List.mem_map.2 ⟨p, List.mem_of_find?_eq_some h, rfl⟩)
theorem VG.get {t : Tb} (h : TG nt nf t) (k : Vl) : VG nt nf (getT t.ks t.vs k) := by
 unfold getT
 rw [if_pos h.m]
 rcases look_in (zs := t.ks.zip t.vs) (k := k) with e | e
 ·rw [e]; exact VG.nil _ _
 ·obtain ⟨p, hp, e2⟩ := List.mem_map.1 e
  rw [← e2]
  exact h.v _ (List.of_mem_zip hp).2
theorem scan_in {k : Vl} : ∀ {xs : List Vl} {b : Bool}, (scan b k xs).2 = 0 → (scan b k xs).1 = nilV ∨ (scan b k xs).1 ∈ xs
 | [], b, h => by
  left
  unfold scan
  split <;> rfl
 | x :: xs, true, h => .inr (by simp [scan])
 | x :: xs, false, h => by
  rw [scan] at h ⊢
  rcases scan_in (xs := xs) h with e | e
  ·exact .inl e
  ·exact .inr (List.mem_cons_of_mem _ e)
theorem a6i (n e : Int) (w : World) : Calls Tryz.prog 41 #[.int .i64 n, .int .i64 e] w fun r w' => r = .returned (.bool (belB n e)) ∧ w' = w := by
 rcases (Bool.eq_false_or_eq_true (decide (0 ≤ n))) with hn | hn
 all_goals
  go_enter Tryz.func41, Tryz.ntmps41
  go_wp2
  go_ret
  exact ⟨a1b (by simp [belB, hn]), rfl⟩
theorem a8c (a n b : Int) (w : World) : Calls Tryz.prog 29 #[.int .i64 a, .int .i64 n, .int .i64 b] w fun r w' => r = .returned (.bool (frB a n b)) ∧ w' = w := by
 rcases (Bool.eq_false_or_eq_true (decide (a ≤ n))) with hn | hn
 all_goals
  go_enter Tryz.func29, Tryz.ntmps29
  go_wp2
  go_ret
  exact ⟨a1b (by simp [frB, hn]), rfl⟩
def b4i (c : Int) : Bool := c == 1 || c == 3 || c == 4 || c == 7
theorem c0v (c : Int) (w : World) : Calls Tryz.prog 46 #[.int .i64 c] w fun r w' => r = .returned (.bool (b4i c)) ∧ w' = w := by
 rcases (Bool.eq_false_or_eq_true (c == 1)) with h1 | h1 <;> rcases (Bool.eq_false_or_eq_true (c == 3)) with h3 | h3 <;> rcases (Bool.eq_false_or_eq_true (c == 4)) with h4 | h4 <;> rcases (Bool.eq_false_or_eq_true (c == 7)) with h7 | h7
 all_goals
  go_enter Tryz.func46, Tryz.ntmps46
  go_wp2
  go_ret
  exact ⟨a1b (by simp [b4i, h1, h3, h4, h7]), rfl⟩
theorem Row.at {u : World} {sv : Value} (h : Row W.heap.size W sv xs) (hu : Below W.heap.size W u) : Row u.heap.size u sv xs := by
 obtain ⟨a, cap, e, hl, hx⟩ := h.below hu
 refine ⟨a, cap, e, hl, fun hne => ?_⟩
 obtain ⟨b, off, ea, hb, hc⟩ := hx hne
 exact ⟨b, off, ea, Nat.lt_of_lt_of_le hb hu.size, hc⟩
def vB (nt nf : Nat) (v : Vl) : Bool := if v.k = 4 then mayB v.k v.n v.s && decide (v.n < nt) else if v.k = 5 then mayB v.k v.n v.s && decide (v.n < nf) else mayB v.k v.n v.s
structure MAt (W : World) (M : Nat) (ca : Option Addr) (nf cc : Nat) (ta : Option Addr) (nt tc : Nat) : Prop where
 f : W.cell? ⟨M, 0, none⟩ = some (.slice ca nf cc)
 t : W.cell? ⟨M, 3, none⟩ = some (.slice ta nt tc)
theorem MAt.on {W' : World} {M : Nat} {ca : Option Addr} {cc : Nat} {ta : Option Addr} {tc : Nat} (h : MAt W M ca nf cc ta nt tc) (hb : Below W.heap.size W W') : MAt W' M ca nf cc ta nt tc := ⟨a0l hb h.f, a0l hb h.t⟩
theorem b5y (v : Vl) (M : Nat) (nf cc nt tc : Nat) (ca ta : Option Addr) (W : World) (hM : MAt W M ca nf cc ta nt tc) :
  Calls Tryz.prog 45 #[.pointer (some ⟨M, 0, none⟩), v.v] W fun r w' => r = .returned (.bool (vB nt nf v)) ∧ Below W.heap.size W w' := by
 have hE := a0c (Below.refl W.heap.size W) (bx v)
 have hm := a4o v.k v.n v.s
 obtain ⟨w1, hw1⟩ := exq (W.alloc (bx v))
 have g1 : w1.heap[W.heap.size]? = some (bx v) := by rw [← hw1]; exact a0h _ _
 rw [hw1] at hE
 have hC : ∀ u, Below w1.heap.size w1 u → u.cell? ⟨W.heap.size, 0, none⟩ = some (.int .i64 v.k) ∧ u.cell? ⟨W.heap.size, 1, none⟩ = some (.int .i64 v.n) ∧ u.cell? ⟨W.heap.size, 2, none⟩ = some (.string v.s) ∧ u.cell? ⟨M, 3, none⟩ = some (.slice ta nt tc) ∧ u.cell? ⟨M, 0, none⟩ = some (.slice ca nf cc) := fun u hu =>
  ⟨a0l hu (a0a g1 rfl), a0l hu (a0a g1 rfl), a0l hu (a0a g1 rfl), a0l hu (hM.on hE).t, a0l hu (hM.on hE).f⟩
 obtain ⟨c0, c1, c2, c3, c4⟩ := hC w1 (Below.refl _ _)
 obtain ⟨R, hR⟩ := exq (vB nt nf v)
 unfold vB at hR
 rw [show vB nt nf v = R from hR]
 clear hM g1
 replace hC : Hid _ := hC
 cases h4 : (v.k == 4)
 ·cases h5 : (v.k == 5)
  ·have e4 : ¬ v.k = 4 := by simpa using h4
   have e5 : ¬ v.k = 5 := by simpa using h5
   rw [if_neg e4, if_neg e5] at hR
   rw [hR] at hm
   replace hm : Hid _ := hm
   clear e4 e5 hR
   go_enter Tryz.func45, Tryz.ntmps45
   go_wp2_with (go_at_call 60; refine (hm.out _).mono ?_; rintro e w2 ⟨rfl, hb2⟩)
   go_ret
   exact ⟨rfl, a0b hE hb2⟩
  ·have e4 : ¬ v.k = 4 := by simpa using h4
   have e5 : v.k = 5 := by simpa using h5
   rw [if_neg e4, if_pos e5] at hR
   clear e4 e5
   cases hb : mayB v.k v.n v.s
   all_goals
    rw [hb] at hm hR
    replace hm : Hid _ := hm
    replace hR : Hid _ := hR
    go_enter Tryz.func45, Tryz.ntmps45
    go_wp2
    refine a1e (Below w1.heap.size w1) (by kernel_rfl) (by kernel_rfl) (Below.refl _ _).drew ?_
    repeat (first
     | go_big_quiet_skip
     | (
      apply a0t
      ·kernel_rfl
      ·intro u hu
       obtain ⟨_, _, _, _, _⟩ := hC.out u hu
       go_simp
       first | (go_at_call 60; refine (hm.out u).mono ?_; rintro e w2 ⟨rfl, hb2⟩; exact ⟨rfl, a0b hu hb2⟩) | with_reducible rfl | skip
      simp only [Act.put, List.setIfInBounds_toArray, List.set_cons_zero, List.set_cons_succ]))
    refine wpQuiet_nil (fun w2 hb2 => ?_)
    go_wp2
    go_ret
    exact ⟨a1b hR.out, a0b hE hb2⟩
 ·have e4 : v.k = 4 := by simpa using h4
  rw [if_pos e4] at hR
  clear e4
  cases hb : mayB v.k v.n v.s
  all_goals
   rw [hb] at hm hR
   replace hm : Hid _ := hm
   replace hR : Hid _ := hR
   go_enter Tryz.func45, Tryz.ntmps45
   go_wp2
   refine a1e (Below w1.heap.size w1) (by kernel_rfl) (by kernel_rfl) (Below.refl _ _).drew ?_
   repeat (first
    | go_big_quiet_skip
    | (
     apply a0t
     ·kernel_rfl
     ·intro u hu
      obtain ⟨_, _, _, _, _⟩ := hC.out u hu
      go_simp
      first | (go_at_call 60; refine (hm.out u).mono ?_; rintro e w2 ⟨rfl, hb2⟩; exact ⟨rfl, a0b hu hb2⟩) | with_reducible rfl | skip
     simp only [Act.put, List.setIfInBounds_toArray, List.set_cons_zero, List.set_cons_succ]))
   refine wpQuiet_nil (fun w2 hb2 => ?_)
   go_wp2
   go_ret
   exact ⟨a1b hR.out, a0b hE hb2⟩
theorem b5z (sv : Value) (xs : List Vl) (M : Nat) (nf cc nt tc : Nat) (ca ta : Option Addr) (W : World) (hM : MAt W M ca nf cc ta nt tc) (hr : Row W.heap.size W sv xs) :
  Calls Tryz.prog 44 #[.pointer (some ⟨M, 0, none⟩), sv] W fun r w' => r = .returned (.bool (allB (fun _ => vB nt nf) xs)) ∧ Below W.heap.size W w' := by
 obtain ⟨a, cap, rfl, hlen, hrow⟩ := hr
 replace hlen := a3f hlen
 have hC : ∀ u, Below W.heap.size W u → ∀ v : Vl, Calls Tryz.prog 45 #[.pointer (some ⟨M, 0, none⟩), v.v] u _ := fun u hu v => b5y v M nf cc nt tc ca ta u (hM.on hu)
 replace hC : Hid _ := hC
 clear hM
 obtain ⟨ans, hans⟩ := exq (allB (fun _ => vB nt nf) xs)
 rw [hans]
 replace hans : Hid _ := hans
 go_enter Tryz.func44, Tryz.ntmps44
 go_wp2
 go_loopw [9] (fun i wr => ∃ m : Nat, m ≤ xs.length ∧ i = .int .i64 m ∧ Hid (a1w (fun _ => vB nt nf) xs m) ∧ Below W.heap.size W wr) (fun i _ => xs.length - (intOf i).toNat)
 case atStart => exact ⟨0, Nat.zero_le _, rfl, a1w.zero, Below.refl _ _⟩
 case round =>
  obtain ⟨m, hm, rfl, hG, hb⟩ := hrel
  by_cases hlt : m < xs.length
  ·obtain ⟨x, hx⟩ : ∃ x, xs[m]? = some x := ⟨xs[m], by simp [hlt]⟩
   obtain ⟨b, off, rfl, hbl, hel⟩ := hrow (by intro e; subst e; simp at hlt)
   obtain ⟨t0, t1, t2⟩ := (hel m x hx).below hb hbl
   have hbad : vB nt nf x = false → Hid (allB (fun _ => vB nt nf) xs = false) := fun h => a2c hx h
   have hnext : vB nt nf x = true → Hid (a1w (fun _ => vB nt nf) xs (m + 1)) := fun h => a1w.next hx h hG.out
   replace hbad : Hid _ := hbad
   replace hnext : Hid _ := hnext
   clear hx hG hrow hel
   have hc := fun u hu => hC.out u hu x
   cases e1 : vB nt nf x
   ·rw [e1] at hc
    replace hc : Hid _ := hc
    replace e1 : Hid _ := e1
    go_wp2_with (go_at_call 45; refine (hc.out _ (a0c hb _)).mono ?_; rintro e w3 ⟨rfl, hb3⟩)
    go_ret
    exact ⟨by rw [← hans.out, (hbad.out e1.out).out]; rfl, a0b (a0c hb _) hb3⟩
   ·rw [e1] at hc
    replace hc : Hid _ := hc
    replace e1 : Hid _ := e1
    go_wp2_with (go_at_call 45; refine (hc.out _ (a0c hb _)).mono ?_; rintro e w3 ⟨rfl, hb3⟩)
    go_roundw
    case rel => exact ⟨m + 1, hlt, by simp, (hnext.out e1.out), a0b (a0c hb _) hb3⟩
    case measure => simp [intOf]; omega
  ·obtain rfl : m = xs.length := by omega
   go_wp2
   go_ret
   exact ⟨by rw [← hans.out, a2l hG.out]; rfl, hb⟩
def fmB (fs : List Fd) (nt : Nat) (x : Frm) : Bool := belB x.f fs.length && (match fs[x.f.toNat]? with | some f => belB x.pc f.is.length && ((x.rs.length : Int) == f.r) && allB (fun _ => vB nt fs.length) x.rs | none => false)
abbrev frB4 (x : Frm) (rv : Value) : Obj := .cells #[.int .i64 x.f, .int .i64 x.pc, .int .i64 x.d, rv] 50
theorem four {B : Nat} {t : TypeId} {a b c d : Value} (h : W.heap[B]? = some (.cells #[a, b, c, d] t)) : W.cell? ⟨B, 0, none⟩ = some a ∧ W.cell? ⟨B, 1, none⟩ = some b ∧ W.cell? ⟨B, 2, none⟩ = some c ∧ W.cell? ⟨B, 3, none⟩ = some d :=
 ⟨a0a h rfl, a0a h rfl, a0a h rfl, a0a h rfl⟩
theorem b7f (x : Frm) (rv : Value) (M : Nat) (fs : List Fd) (cc nt tc : Nat) (ca ta : Option Addr) (W : World) (hM : MAt W M ca fs.length cc ta nt tc) (rn rc : Nat) (ra : Option Addr) (hrv : rv = .slice ra rn rc) (hf : belB x.f fs.length = false) :
  Calls Tryz.prog 42 #[.pointer (some ⟨M, 0, none⟩), .agg #[.int .i64 x.f, .int .i64 x.pc, .int .i64 x.d, rv]] W fun r w' => r = .returned (.bool false) ∧ Below W.heap.size W w' := by
 subst hrv
 have hE := a0c (Below.refl W.heap.size W) (frB4 x (.slice ra rn rc))
 obtain ⟨w1, hw1⟩ := exq (W.alloc (frB4 x (.slice ra rn rc)))
 have g1 : w1.heap[W.heap.size]? = some (frB4 x (.slice ra rn rc)) := by rw [← hw1]; exact a0h _ _
 rw [hw1] at hE
 have hC : ∀ u, Below w1.heap.size w1 u → u.cell? ⟨W.heap.size, 0, none⟩ = some (.int .i64 x.f) ∧ u.cell? ⟨M, 0, none⟩ = some (.slice ca fs.length cc) := fun u hu => ⟨a0l hu (a0a g1 rfl), a0l hu (hM.on hE).f⟩
 have hq := fun w => a6i x.f fs.length w
 rw [hf] at hq
 replace hq : Hid _ := hq
 replace hC : Hid _ := hC
 clear hM g1
 go_enter Tryz.func42, Tryz.ntmps42
 go_wp2
 refine a1e (Below w1.heap.size w1) (by kernel_rfl) (by kernel_rfl) (Below.refl _ _).drew ?_
 repeat (first
  | go_big_quiet_skip
  | (
   apply a0t
   ·kernel_rfl
   ·intro u hu
    obtain ⟨_, _⟩ := hC.out u hu
    go_simp
    first | (go_at_call 41; refine (hq.out u).mono ?_; rintro e w2 ⟨rfl, rfl⟩; exact ⟨rfl, hu⟩) | with_reducible rfl | skip
   simp only [Act.put, List.setIfInBounds_toArray, List.set_cons_zero, List.set_cons_succ]))
 refine wpQuiet_nil (fun w2 hb2 => ?_)
 go_wp2
 go_ret
 exact ⟨rfl, a0b hE hb2⟩
theorem c0w (x : Frm) (n : Nat) (f : Fd) (M : Nat) (fs : List Fd) (cc nt tc b off : Nat) (ta : Option Addr) (W : World) (hM : MAt W M (some ⟨b, off, none⟩) fs.length cc ta nt tc) (rc : Nat) (ra : Option Addr) (hr : Row W.heap.size W (.slice ra x.rs.length rc) x.rs) (hn : x.f = n) (hnl : n < fs.length) (hA : FAt W b (off + n * 4) f) :
  Calls Tryz.prog 42 #[.pointer (some ⟨M, 0, none⟩), .agg #[.int .i64 x.f, .int .i64 x.pc, .int .i64 x.d, .slice ra x.rs.length rc]] W fun r w' => r = .returned (.bool (belB x.pc f.is.length && ((x.rs.length : Int) == f.r) && allB (fun _ => vB nt fs.length) x.rs)) ∧ Below W.heap.size W w' := by
 rw [hn]
 have hE := a0c (Below.refl W.heap.size W) (.cells #[.int .i64 n, .int .i64 x.pc, .int .i64 x.d, .slice ra x.rs.length rc] 50)
 obtain ⟨w1, hw1⟩ := exq (W.alloc (.cells #[.int .i64 n, .int .i64 x.pc, .int .i64 x.d, .slice ra x.rs.length rc] 50))
 have g1 : w1.heap[W.heap.size]? = some (.cells #[.int .i64 n, .int .i64 x.pc, .int .i64 x.d, .slice ra x.rs.length rc] 50) := by rw [← hw1]; exact a0h _ _
 rw [hw1] at hE
 have hbl := World.block_lt_of_cell? _ _ hA.p
 have hA1 : FAt w1 b (off + n * 4) f := hA.below hE hbl
 have hC : ∀ u, Below w1.heap.size w1 u → u.cell? ⟨W.heap.size, 0, none⟩ = some (.int .i64 n) ∧ u.cell? ⟨M, 0, none⟩ = some (.slice (some ⟨b, off, none⟩) fs.length cc) := fun u hu => ⟨a0l hu (a0a g1 rfl), a0l hu (hM.on hE).f⟩
 have hC2 : ∀ u, Below w1.heap.size w1 u → u.cell? ⟨W.heap.size, 1, none⟩ = some (.int .i64 x.pc) ∧ u.cell? ⟨W.heap.size, 3, none⟩ = some (.slice ra x.rs.length rc) ∧ FAt u b (off + n * 4) f := fun u hu => ⟨a0l hu (a0a g1 rfl), a0l hu (a0a g1 rfl), ⟨a0l hu hA1.p, a0l hu hA1.r, a0l hu hA1.c, a0l hu hA1.i⟩⟩
 have hq : ∀ w, Calls Tryz.prog 41 #[.int .i64 (n : Int), .int .i64 (fs.length : Int)] w fun r w' => r = .returned (.bool true) ∧ w' = w := fun w => by
  have := a6i n fs.length w
  rw [show belB (n : Int) fs.length = true by simp [belB]; omega] at this
  exact this
 have hp := fun w => a6i x.pc f.is.length w
 have ha : ∀ u, Below W.heap.size W u → Calls Tryz.prog 44 #[.pointer (some ⟨M, 0, none⟩), .slice ra x.rs.length rc] u _ := fun u hu => b5z _ x.rs M fs.length cc nt tc _ ta u (hM.on hu) (hr.at hu)
 obtain ⟨nr, hnr⟩ := exq (x.rs.length)
 obtain ⟨ni, hni⟩ := exq (f.is.length)
 obtain ⟨nf, hnf⟩ := exq (fs.length)
 obtain ⟨B1, hB1⟩ := exq (belB x.pc f.is.length)
 obtain ⟨B3, hB3⟩ := exq (allB (fun _ => vB nt fs.length) x.rs)
 rw [hB1] at hp ⊢
 rw [hB3] at ha ⊢
 rw [hnr] at ha hw1 hC2 ⊢
 rw [hni] at hp
 rw [hnf] at hq hC hnl
 have hi := fun u hu => (hC2 u hu).2.2.i
 rw [hni] at hi
 have hC3 : ∀ u, Below w1.heap.size w1 u → u.cell? ⟨W.heap.size, 1, none⟩ = some (.int .i64 x.pc) ∧ u.cell? ⟨W.heap.size, 3, none⟩ = some (.slice ra nr rc) ∧ u.cell? ⟨b, off + n * 4, none⟩ = some (.int .i64 f.p) ∧ u.cell? ⟨b, off + n * 4 + 1, none⟩ = some (.int .i64 f.r) ∧ u.cell? ⟨b, off + n * 4 + 2, none⟩ = some (.slice f.ca f.cs.length f.cc) ∧ u.cell? ⟨b, off + n * 4 + 3, none⟩ = some (.slice f.ia ni f.ic) := fun u hu => ⟨(hC2 u hu).1, (hC2 u hu).2.1, (hC2 u hu).2.2.p, (hC2 u hu).2.2.r, (hC2 u hu).2.2.c, hi u hu⟩
 clear hM g1 hr hA hA1 hbl hn hi hC2 hB1 hB3 hnr hni hnf
 replace hq : Hid _ := hq
 replace hp : Hid _ := hp
 replace ha : Hid _ := ha
 replace hC : Hid _ := hC
 replace hC3 : Hid _ := hC3
 go_enter Tryz.func42, Tryz.ntmps42
 go_wp2
 refine a1e (Below w1.heap.size w1) (by kernel_rfl) (by kernel_rfl) (Below.refl _ _).drew ?_
 repeat (first
  | go_big_quiet_skip
  | (
   apply a0t
   ·kernel_rfl
   ·intro u hu
    obtain ⟨_, _⟩ := hC.out u hu
    go_simp
    first | (go_at_call 41; refine (hq.out u).mono ?_; rintro e w2 ⟨rfl, rfl⟩; exact ⟨rfl, hu⟩) | with_reducible rfl | skip
   simp only [Act.put, List.setIfInBounds_toArray, List.set_cons_zero, List.set_cons_succ]))
 refine wpQuiet_nil (fun w2 hb2 => ?_)
 obtain ⟨c0, c1⟩ := hC.out w2 hb2
 obtain ⟨d1, d3, f0, f1, f2, f3⟩ := hC3.out w2 hb2
 have z1 := World.block_lt_of_cell? _ _ d1
 have z2 := World.block_lt_of_cell? _ _ c1
 have z3 := World.block_lt_of_cell? _ _ f0
 simp only at z1 z2 z3
 have z1' : ¬ w2.heap.size = W.heap.size := by omega
 have z2' : ¬ w2.heap.size = M := by omega
 have z3' : ¬ w2.heap.size = b := by omega
 go_wp2
 go_region
 clear c0 c1 d1 d3 f0 f1 f2 f3 z1' z2' z3' z1 z2 z3
 obtain ⟨w3, hw3⟩ := exq ((w2.alloc (.cells #[.int .i64 f.p, .int .i64 f.r, .slice f.ca f.cs.length f.cc, .slice f.ia ni f.ic] 54)).drew)
 have N3 : Below w1.heap.size w1 w3 := by rw [← hw3]; exact a0i (a0c hb2 _)
 have g3 : w3.heap[w2.heap.size]? = some (.cells #[.int .i64 f.p, .int .i64 f.r, .slice f.ca f.cs.length f.cc, .slice f.ia ni f.ic] 54) := by rw [← hw3]; exact a0h _ _
 obtain ⟨_, e1, _, e3⟩ := four g3
 obtain ⟨D1, D3, _⟩ := hC3.out w3 N3
 have E3 := a0b hE N3
 rw [hw3]
 clear hw3 g3 hw1 hb2
 cases B1
 ·go_wp2_with (go_at_call 41; refine (hp.out _).mono ?_; rintro e w' ⟨rfl, rfl⟩)
  go_ret
  exact ⟨rfl, E3⟩
 ·cases h2 : ((nr : Int) == f.r)
  ·go_wp2_with (go_at_call 41; refine (hp.out _).mono ?_; rintro e w' ⟨rfl, rfl⟩)
   go_ret
   exact ⟨a1b (by rw [h2]; rfl), E3⟩
  ·go_wp2_with (first | (go_at_call 41; refine (hp.out _).mono ?_; rintro e w' ⟨rfl, rfl⟩) | (go_at_call 44; refine (ha.out _ E3).mono ?_; rintro e w4 ⟨rfl, hb4⟩))
   go_ret
   exact ⟨a1b (by rw [h2]; rfl), a0b E3 hb4⟩
theorem b7g (x : Frm) (rv : Value) (M : Nat) (fs : List Fd) (cc nt tc : Nat) (ca ta : Option Addr) (W : World) (hM : MAt W M ca fs.length cc ta nt tc) (hF : RowF W.heap.size W ca fs) (hr : Row W.heap.size W rv x.rs) :
  Calls Tryz.prog 42 #[.pointer (some ⟨M, 0, none⟩), .agg #[.int .i64 x.f, .int .i64 x.pc, .int .i64 x.d, rv]] W fun r w' => r = .returned (.bool (fmB fs nt x)) ∧ Below W.heap.size W w' := by
 have hr' := hr
 obtain ⟨ra, rc, rfl, _, _⟩ := hr'
 unfold fmB
 cases hf : belB x.f fs.length
 ·exact b7f x _ M fs cc nt tc ca ta W hM _ rc ra rfl hf
 ·have h0 : 0 ≤ x.f ∧ x.f < fs.length := by simpa [belB] using hf
  obtain ⟨n, hn⟩ : ∃ n : Nat, x.f = n := ⟨x.f.toNat, by omega⟩
  have hnl : n < fs.length := by omega
  obtain ⟨b, off, rfl, _, hc⟩ := hF.2 (by intro e; subst e; simp at hnl)
  have hx : fs[n]? = some fs[n] := by simp [hnl]
  have := c0w x n fs[n] M fs cc nt tc b off ta W hM rc ra hr hn hnl (hc n _ hx).1
  have e1 : fs[x.f.toNat]? = some fs[n] := by rw [hn]; exact hx
  rw [e1, Bool.true_and]
  exact this
end
end Go.Proofs.YthpgbienakcbeaaGreatDoor
