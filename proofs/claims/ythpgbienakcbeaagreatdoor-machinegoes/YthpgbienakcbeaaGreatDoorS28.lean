/- An order at its place: what the program and the document say of it. -/
import Derived.Test.YthpgbienakcbeaaGreatDoorS21
import Derived.Test.YthpgbienakcbeaaGreatDoorS22
namespace Go.Proofs.YthpgbienakcbeaaGreatDoor
open Go.RowKit Go
set_option maxRecDepth 100000
set_option maxHeartbeats 8000000
set_option linter.all false
variable {n₀ b o m i : Nat} {A B W : World} {a : Option Addr} {xs : List Vl} {v : Value} {f : Fd}
def a0s (f : Fd) (x : Od) (i : Nat) : Bool :=
 match a1i x.op with
 | none => false
 | some l =>
  if l = [109, 109] then (belB x.a f.r) && (belB x.b f.r) && (x.c == 0)
  else if l = [109, 110] then (belB x.a f.r) && (belB x.b f.cs.length) && (x.c == 0)
  else if l = [109] then (belB x.a f.r) && (x.b == 0) && (x.c == 0)
  else if l = [109, 109, 109] then (belB x.a f.r) && (belB x.b f.r) && (belB x.c f.r)
  else if l = [111] then (belB x.a f.is.length) && (x.b == 0) && (x.c == 0)
  else if l = [109, 111] then (belB x.a f.r) && (belB x.b f.is.length) && (x.c == 0)
  else if l = [112] then (frB 0 x.a i) && (x.b == 0) && (x.c == 0)
  else if l = [109, 109, 113] then (belB x.a f.r) && (belB x.b f.r) && (argB f x x.c)
  else false
theorem fieldsR_lists {op : Int} {l : List Nat} (h : a1i op = some l) : l = [109, 109] ∨ l = [109, 110] ∨ l = [109] ∨ l = [109, 109, 109] ∨ l = [111] ∨ l = [109, 111] ∨ l = [112] ∨ l = [109, 109, 113] := by
 unfold a1i at h
 repeat' split at h
 all_goals first | (cases h; simp) | cases h
theorem c9n (f : Fd) (x : Od) (i : Nat) (w : World) (hl : a1i x.op = none) :
  Calls Tryz.prog 61 #[plc f x i] w fun e w' => e = .returned (.bool false) ∧ Below w.heap.size w w' := by
 have hF := b3x x.op hl
 clear hl
 have hnil := c4d
 go_enter Tryz.func61, Tryz.ntmps61
 go_wp2_with (go_at_call 93; refine (hF _).mono ?_; rintro e w' ⟨rfl, rfl⟩)
 go_ret
 refine ⟨rfl, ?_⟩
 repeat (first | exact Below.refl _ _ | refine a0c ?_ _)
theorem c7f (f : Fd) (x : Od) (i : Nat) (w : World) :
  Calls Tryz.prog 61 #[plc f x i] w fun e w' => e = .returned (.bool (a0s f x i)) ∧ Below w.heap.size w w' := by
 have q9 : isQ 109 := .inl rfl
 have q10 : isQ 110 := .inr (.inl rfl)
 have q11 : isQ 111 := .inr (.inr (.inl rfl))
 have q12 : isQ 112 := .inr (.inr (.inr (.inl rfl)))
 have q13 : isQ 113 := .inr (.inr (.inr (.inr rfl)))
 have key : ∀ b : Bool, a0s f x i = b → (Calls Tryz.prog 61 #[plc f x i] w fun e w' => e = .returned (.bool b) ∧ Below w.heap.size w w') → Calls Tryz.prog 61 #[plc f x i] w fun e w' => e = .returned (.bool (a0s f x i)) ∧ Below w.heap.size w w' := by
  intro b hb h; rw [hb]; exact h
 cases hl : a1i x.op with
 | none => exact key false (by simp [a0s, hl]) (c9n f x i w hl)
 | some l =>
  rcases fieldsR_lists hl with rfl | rfl | rfl | rfl | rfl | rfl | rfl | rfl
  ·exact key _ (by simp [a0s, hl, qB]) (b4d f x i w 109 109 q9 q9 hl)
  ·exact key _ (by simp [a0s, hl, qB]) (b4d f x i w 109 110 q9 q10 hl)
  ·exact key _ (by simp [a0s, hl, qB]) (b4c f x i w 109 q9 hl)
  ·exact key _ (by simp [a0s, hl, qB]) (b9t f x i w 109 109 109 q9 q9 q9 hl)
  ·exact key _ (by simp [a0s, hl, qB]) (b4c f x i w 111 q11 hl)
  ·exact key _ (by simp [a0s, hl, qB]) (b4d f x i w 109 111 q9 q11 hl)
  ·exact key _ (by simp [a0s, hl, qB]) (b4c f x i w 112 q12 hl)
  ·exact key _ (by simp [a0s, hl, qB]) (b9t f x i w 109 109 113 q9 q9 q13 hl)
theorem a6d {n : Int} (h1 : -9223372036854775808 ≤ n) (h2 : n ≤ 9223372036854775807) : wrap64 n = n := by
 unfold wrap64
 omega
structure Four (W : World) (b o : Nat) (x : Od) : Prop where
 op : W.cell? ⟨b, o, none⟩ = some (.int .i64 x.op)
 a : W.cell? ⟨b, o + 1, none⟩ = some (.int .i64 x.a)
 bb : W.cell? ⟨b, o + 2, none⟩ = some (.int .i64 x.b)
 c : W.cell? ⟨b, o + 3, none⟩ = some (.int .i64 x.c)
theorem Four.below (h : Below n₀ A B) {x : Od} (hb : b < n₀) (t : Four A b o x) : Four B b o x :=
 ⟨(h.cell (p := ⟨b, o, none⟩) hb).trans t.op, (h.cell (p := ⟨b, o + 1, none⟩) hb).trans t.a, (h.cell (p := ⟨b, o + 2, none⟩) hb).trans t.bb, (h.cell (p := ⟨b, o + 3, none⟩) hb).trans t.c⟩
def RowV (n₀ : Nat) (W : World) (a : Option Addr) (xs : List Vl) : Prop :=
 xs.length ≤ maxLen ∧ (xs ≠ [] → ∃ b off, a = some ⟨b, off, none⟩ ∧ b < n₀ ∧ ∀ j x, xs[j]? = some x → a1m W b (off + j * 3) x)
def RowI (n₀ : Nat) (W : World) (a : Option Addr) (xs : List Od) : Prop :=
 xs.length ≤ maxLen ∧ (xs ≠ [] → ∃ b off, a = some ⟨b, off, none⟩ ∧ b < n₀ ∧ ∀ j x, xs[j]? = some x → Four W b (off + j * 4) x)
theorem RowV.below (h : Below n₀ A B) (r : RowV n₀ A a xs) : RowV n₀ B a xs := by
 refine ⟨r.1, fun hne => ?_⟩
 obtain ⟨b, off, ea, hb, hc⟩ := r.2 hne
 exact ⟨b, off, ea, hb, fun j x hj => (hc j x hj).below h hb⟩
theorem RowI.below (h : Below n₀ A B) {xs : List Od} (r : RowI n₀ A a xs) : RowI n₀ B a xs := by
 refine ⟨r.1, fun hne => ?_⟩
 obtain ⟨b, off, ea, hb, hc⟩ := r.2 hne
 exact ⟨b, off, ea, hb, fun j x hj => (hc j x hj).below h hb⟩
theorem RowV.mono (hm : n₀ ≤ m) (r : RowV n₀ A a xs) : RowV m A a xs := by
 refine ⟨r.1, fun hne => ?_⟩
 obtain ⟨b, off, ea, hb, hc⟩ := r.2 hne
 exact ⟨b, off, ea, by omega, hc⟩
theorem RowI.mono (hm : n₀ ≤ m) {xs : List Od} (r : RowI n₀ A a xs) : RowI m A a xs := by
 refine ⟨r.1, fun hne => ?_⟩
 obtain ⟨b, off, ea, hb, hc⟩ := r.2 hne
 exact ⟨b, off, ea, by omega, hc⟩
theorem a5j {wr w3 : World} {c : Array Value} {t : TypeId} (hb : Below (wr.alloc (.cells c t)).heap.size (wr.alloc (.cells c t)) w3) (h : c[i]? = some v) : w3.cell? ⟨wr.heap.size, i, none⟩ = some v :=
 (hb.cell (p := ⟨wr.heap.size, i, none⟩) (by simp)).trans (a1r (a0h _ _) h)
theorem a3f {n : Nat} (hn : n ≤ maxLen) : n ≤ 9223372036854775807 := by
 have : maxLen = 9223372036854775807 := by decide
 omega
def a2g (nf : Int) (x : Vl) : Bool := mayB x.k x.n x.s && !(x.k == 4) && !(x.k == 5 && decide (nf ≤ x.n))
def a1w {α : Type} (p : Nat → α → Bool) (xs : List α) (m : Nat) : Prop := ∀ j x, j < m → xs[j]? = some x → p j x = true
def allB {α : Type} (p : Nat → α → Bool) (xs : List α) : Bool := (List.range xs.length).all fun j => match xs[j]? with | some x => p j x | none => true
theorem a2l {α : Type} {p : Nat → α → Bool} {xs : List α} (h : a1w p xs xs.length) : allB p xs = true := by
 unfold allB
 rw [List.all_eq_true]
 intro j hj
 cases e : xs[j]? with
 | none => rfl
 | some x => exact h j x (List.mem_range.1 hj) e
theorem a2c {α : Type} {p : Nat → α → Bool} {xs : List α} {j : Nat} {x : α} (hx : xs[j]? = some x) (h : p j x = false) : allB p xs = false := by
 cases e : allB p xs
 ·rfl
 ·unfold allB at e
  rw [List.all_eq_true] at e
  have := e j (List.mem_range.2 (List.getElem?_eq_some_iff.1 hx).1)
  simp only [hx] at this
  rw [h] at this
  cases this
theorem a1w.zero {α : Type} {p : Nat → α → Bool} {xs : List α} : a1w p xs 0 := fun _ _ h => by omega
theorem a1w.next {α : Type} {p : Nat → α → Bool} {xs : List α} {x : α} (hx : xs[m]? = some x) (hp : p m x = true) (h : a1w p xs m) : a1w p xs (m + 1) := fun j y hj hy => by
 rcases Nat.lt_or_ge j m with h' | h'
 ·exact h j y h' hy
 ·obtain rfl : j = m := by omega
  rw [hx] at hy
  cases hy
  exact hp
theorem b7d (a : Option Addr) (c : Nat) (cs : List Vl) (nf : Int) (w : World) (hr : RowV w.heap.size w a cs) :
  Calls Tryz.prog 39 #[.slice a cs.length c, .int .i64 nf] w fun e w' => e = .returned (.bool (allB (fun _ => a2g nf) cs)) ∧ Below w.heap.size w w' := by
 obtain ⟨hlen, hrow⟩ := hr
 replace hlen := a3f hlen
 go_enter Tryz.func39, Tryz.ntmps39
 go_wp2
 go_loopw [9] (fun i wr => ∃ m : Nat, m ≤ cs.length ∧ i = .int .i64 m ∧ Hid (a1w (fun _ => a2g nf) cs m) ∧ Below w.heap.size w wr) (fun i _ => cs.length - (intOf i).toNat)
 case atStart => exact ⟨0, Nat.zero_le _, rfl, a1w.zero, Below.refl _ _⟩
 case round =>
  obtain ⟨m, hm, rfl, hG, hb⟩ := hrel
  by_cases hlt : m < cs.length
  ·obtain ⟨x, hx⟩ : ∃ x, cs[m]? = some x := ⟨cs[m], by simp [hlt]⟩
   obtain ⟨b, off, rfl, hbl, hel⟩ := hrow (by intro e; subst e; simp at hlt)
   obtain ⟨t0, t1, t2⟩ := (hel m x hx).below hb hbl
   have hbad : a2g nf x = false → Hid (allB (fun _ => a2g nf) cs = false) := fun h => a2c hx h
   have hnext : a2g nf x = true → Hid (a1w (fun _ => a2g nf) cs (m + 1)) := fun h => a1w.next hx h hG.out
   replace hbad : Hid _ := hbad
   replace hnext : Hid _ := hnext
   clear hx hG hrow hel
   cases e1 : mayB x.k x.n x.s
   ·have hC := fun w => b6l x.k x.n x.s w e1
    replace e1 : Hid _ := e1
    go_wp2_with (go_at_call 60; refine (hC _).mono ?_; rintro e w3 ⟨rfl, hb3⟩)
    go_ret
    exact ⟨by rw [(hbad.out (by simp [a2g, e1.out])).out]; rfl, a0b (a0c hb _) hb3⟩
   ·have hC := fun w => a2r x.k x.n x.s w e1
    replace e1 : Hid _ := e1
    go_wp2_with (go_at_call 60; refine (hC _).mono ?_; rintro e w3 ⟨rfl, hb3⟩; have v0 := a5j (i := 0) hb3 rfl; have v1 := a5j (i := 1) hb3 rfl; refine Hid.out ?_)
    replace hb := a0b (a0c hb _) hb3
    clear t0 t1 t2 hb3 hC
    refine Lib.hid ?_
    cases e4 : (x.k == 4)
    ·cases e5 : (x.k == 5)
     ·go_wp2
      go_roundw
      case rel => exact ⟨m + 1, hlt, by simp, (hnext.out (by simp [a2g, e1.out, e4, e5])), hb⟩
      case measure => simp [intOf]; omega
     ·cases e6 : decide (nf ≤ x.n)
      ·go_wp2
       go_roundw
       case rel => exact ⟨m + 1, hlt, by simp, (hnext.out (by simp [a2g, e1.out, e4, e5, e6])), hb⟩
       case measure => simp [intOf]; omega
      ·go_wp2
       go_ret
       exact ⟨by rw [(hbad.out (by simp [a2g, e1.out, e4, e5, e6])).out]; rfl, hb⟩
    ·go_wp2
     go_ret
     exact ⟨by rw [(hbad.out (by simp [a2g, e1.out, e4])).out]; rfl, hb⟩
  ·obtain rfl : m = cs.length := by omega
   go_wp2
   go_ret
   exact ⟨by rw [a2l hG.out]; rfl, hb⟩
def a3x (f : Fd) : Bool := frB 0 f.p 5 && frB (max 1 f.p) f.r 250 && decide ((f.cs.length : Int) ≤ 700) && frB 1 f.is.length 3000
theorem d2a (f : Fd) (w : World) (h0 : frB 0 f.p 5 = false) : Calls Tryz.prog 38 #[f.v] w fun e w' => e = .returned (.bool false) ∧ Below w.heap.size w w' := by
 go_enter Tryz.func38, Tryz.ntmps38
 go_wp2_with (go_at_call 59; refine (a1x _ _ _ _).mono ?_; (first | rw [h0] | skip); rintro e w' ⟨rfl, rfl⟩)
 go_ret
 refine ⟨rfl, ?_⟩
 repeat (first | exact Below.refl _ _ | refine a0c ?_ _)
theorem c4y (f : Fd) (w : World) (hp : f.p ≤ 1) (h0 : frB 0 f.p 5 = true) (h1 : frB 1 f.r 250 = false) : Calls Tryz.prog 38 #[f.v] w fun e w' => e = .returned (.bool false) ∧ Below w.heap.size w w' := by
 go_enter Tryz.func38, Tryz.ntmps38
 go_wp2_with (go_at_call 59; refine (a1x _ _ _ _).mono ?_; (first | rw [h0] | rw [h1] | skip); rintro e w' ⟨rfl, rfl⟩)
 go_ret
 refine ⟨rfl, ?_⟩
 repeat (first | exact Below.refl _ _ | refine a0c ?_ _)
theorem c4z (f : Fd) (w : World) (hp : f.p ≤ 1) (h0 : frB 0 f.p 5 = true) (h1 : frB 1 f.r 250 = true) (h2 : ¬ ((f.cs.length : Int) ≤ 700)) : Calls Tryz.prog 38 #[f.v] w fun e w' => e = .returned (.bool false) ∧ Below w.heap.size w w' := by
 go_enter Tryz.func38, Tryz.ntmps38
 go_wp2_with (go_at_call 59; refine (a1x _ _ _ _).mono ?_; (first | rw [h0] | rw [h1] | skip); rintro e w' ⟨rfl, rfl⟩)
 go_ret
 refine ⟨rfl, ?_⟩
 repeat (first | exact Below.refl _ _ | refine a0c ?_ _)
theorem c5a (f : Fd) (w : World) (hp : f.p ≤ 1) (h0 : frB 0 f.p 5 = true) (h1 : frB 1 f.r 250 = true) (h2 : ((f.cs.length : Int) ≤ 700)) : Calls Tryz.prog 38 #[f.v] w fun e w' => e = .returned (.bool (frB 1 f.is.length 3000)) ∧ Below w.heap.size w w' := by
 go_enter Tryz.func38, Tryz.ntmps38
 go_wp2_with (go_at_call 59; refine (a1x _ _ _ _).mono ?_; (first | rw [h0] | rw [h1] | skip); rintro e w' ⟨rfl, rfl⟩)
 go_ret
 refine ⟨rfl, ?_⟩
 repeat (first | exact Below.refl _ _ | refine a0c ?_ _)
theorem c5b (f : Fd) (w : World) (hp : ¬ f.p ≤ 1) (h0 : frB 0 f.p 5 = true) (h1 : frB f.p f.r 250 = false) : Calls Tryz.prog 38 #[f.v] w fun e w' => e = .returned (.bool false) ∧ Below w.heap.size w w' := by
 go_enter Tryz.func38, Tryz.ntmps38
 go_wp2_with (go_at_call 59; refine (a1x _ _ _ _).mono ?_; (first | rw [h0] | rw [h1] | skip); rintro e w' ⟨rfl, rfl⟩)
 go_ret
 refine ⟨rfl, ?_⟩
 repeat (first | exact Below.refl _ _ | refine a0c ?_ _)
theorem c5c (f : Fd) (w : World) (hp : ¬ f.p ≤ 1) (h0 : frB 0 f.p 5 = true) (h1 : frB f.p f.r 250 = true) (h2 : ¬ ((f.cs.length : Int) ≤ 700)) : Calls Tryz.prog 38 #[f.v] w fun e w' => e = .returned (.bool false) ∧ Below w.heap.size w w' := by
 go_enter Tryz.func38, Tryz.ntmps38
 go_wp2_with (go_at_call 59; refine (a1x _ _ _ _).mono ?_; (first | rw [h0] | rw [h1] | skip); rintro e w' ⟨rfl, rfl⟩)
 go_ret
 refine ⟨rfl, ?_⟩
 repeat (first | exact Below.refl _ _ | refine a0c ?_ _)
theorem c5d (f : Fd) (w : World) (hp : ¬ f.p ≤ 1) (h0 : frB 0 f.p 5 = true) (h1 : frB f.p f.r 250 = true) (h2 : ((f.cs.length : Int) ≤ 700)) : Calls Tryz.prog 38 #[f.v] w fun e w' => e = .returned (.bool (frB 1 f.is.length 3000)) ∧ Below w.heap.size w w' := by
 go_enter Tryz.func38, Tryz.ntmps38
 go_wp2_with (go_at_call 59; refine (a1x _ _ _ _).mono ?_; (first | rw [h0] | rw [h1] | skip); rintro e w' ⟨rfl, rfl⟩)
 go_ret
 refine ⟨rfl, ?_⟩
 repeat (first | exact Below.refl _ _ | refine a0c ?_ _)
theorem b5w (f : Fd) (w : World) : Calls Tryz.prog 38 #[f.v] w fun e w' => e = .returned (.bool (a3x f)) ∧ Below w.heap.size w w' := by
 have key : ∀ b : Bool, a3x f = b → (Calls Tryz.prog 38 #[f.v] w fun e w' => e = .returned (.bool b) ∧ Below w.heap.size w w') → Calls Tryz.prog 38 #[f.v] w fun e w' => e = .returned (.bool (a3x f)) ∧ Below w.heap.size w w' := by
  intro b hb h; rw [hb]; exact h
 cases h0 : frB 0 f.p 5
 ·exact key false (by unfold a3x; rw [h0]; rfl) (d2a f w h0)
 by_cases hp : f.p ≤ 1
 ·have hm : max 1 f.p = 1 := by omega
  cases h1 : frB 1 f.r 250
  ·exact key false (by unfold a3x; rw [hm, h0, h1]; rfl) (c4y f w hp h0 h1)
  by_cases h2 : (f.cs.length : Int) ≤ 700
  ·exact key _ (by unfold a3x; rw [hm, h0, h1, decide_eq_true h2]; rfl) (c5a f w hp h0 h1 h2)
  ·exact key false (by unfold a3x; rw [hm, h0, h1, decide_eq_false h2]; rfl) (c4z f w hp h0 h1 h2)
 ·have hm : max 1 f.p = f.p := by omega
  cases h1 : frB f.p f.r 250
  ·exact key false (by unfold a3x; rw [hm, h0, h1]; rfl) (c5b f w hp h0 h1)
  by_cases h2 : (f.cs.length : Int) ≤ 700
  ·exact key _ (by unfold a3x; rw [hm, h0, h1, decide_eq_true h2]; rfl) (c5d f w hp h0 h1 h2)
  ·exact key false (by unfold a3x; rw [hm, h0, h1, decide_eq_false h2]; rfl) (c5c f w hp h0 h1 h2)
def a8k (x : Od) : Bool := x.op == 12 || x.op == 8 || x.op == 10
def a6e (f : Fd) : Bool := allB (fun i x => a0s f x i) f.is && (match f.is[f.is.length - 1]? with | some x => a8k x | none => false)
theorem c5e (f : Fd) (w : World) (hr : RowI w.heap.size w f.ia f.is) (hne : f.is ≠ []) :
  Calls Tryz.prog 40 #[f.v] w fun e w' => e = .returned (.bool (a6e f)) ∧ Below w.heap.size w w' := by
 obtain ⟨hlen, hrow⟩ := hr
 replace hlen := a3f hlen
 obtain ⟨b, off, ha, hbl, hel⟩ := hrow hne
 have hpos : 0 < f.is.length := List.length_pos_iff.2 hne
 have hv : f.v = .agg #[.int .i64 f.p, .int .i64 f.r, .slice f.ca f.cs.length f.cc, .slice (some ⟨b, off, none⟩) f.is.length f.ic] := by rw [← ha]
 have hpl : ∀ (x : Od) (m : Nat), plc f x m = .agg #[.int .i64 f.p, .int .i64 f.r, .slice f.ca f.cs.length f.cc, .slice (some ⟨b, off, none⟩) f.is.length f.ic, .int .i64 x.op, .int .i64 x.a, .int .i64 x.b, .int .i64 x.c, .int .i64 m] := fun x m => by rw [← ha]
 replace hpl : Hid _ := hpl
 have hf0 := a0h w (.cells #[.int .i64 f.p, .int .i64 f.r, .slice f.ca f.cs.length f.cc, .slice (some ⟨b, off, none⟩) f.is.length f.ic] 54)
 have hb0 : Below w.heap.size w (w.alloc (.cells #[.int .i64 f.p, .int .i64 f.r, .slice f.ca f.cs.length f.cc, .slice (some ⟨b, off, none⟩) f.is.length f.ic] 54)) := a0c (Below.refl _ _) _
 rw [hv]
 clear hv ha
 obtain ⟨ans, hans⟩ := exq (a6e f)
 rw [hans]
 replace hans : Hid _ := hans
 go_enter Tryz.func40, Tryz.ntmps40
 go_wp2
 go_loopw [8] (fun i wr => ∃ m : Nat, m ≤ f.is.length ∧ i = .int .i64 m ∧ Hid (a1w (fun i x => a0s f x i) f.is m) ∧ wr.heap[w.heap.size]? = some (.cells #[.int .i64 f.p, .int .i64 f.r, .slice f.ca f.cs.length f.cc, .slice (some ⟨b, off, none⟩) f.is.length f.ic] 54) ∧ Below w.heap.size w wr) (fun i _ => f.is.length - (intOf i).toNat)
 case atStart => exact ⟨0, Nat.zero_le _, rfl, a1w.zero, hf0, hb0⟩
 case round =>
  clear hf0 hb0
  obtain ⟨m, hm, rfl, hG, hf, hb⟩ := hrel
  have c0 : wr.cell? ⟨w.heap.size, 0, none⟩ = some (.int .i64 f.p) := a1r hf rfl
  have c1 : wr.cell? ⟨w.heap.size, 1, none⟩ = some (.int .i64 f.r) := a1r hf rfl
  have c2 : wr.cell? ⟨w.heap.size, 2, none⟩ = some (.slice f.ca f.cs.length f.cc) := a1r hf rfl
  have c3 : wr.cell? ⟨w.heap.size, 3, none⟩ = some (.slice (some ⟨b, off, none⟩) f.is.length f.ic) := a1r hf rfl
  have hl0 : w.heap.size < wr.heap.size := (Array.getElem?_eq_some_iff.1 hf).1
  by_cases hlt : m < f.is.length
  ·obtain ⟨x, hx⟩ : ∃ x, f.is[m]? = some x := ⟨f.is[m], by simp [hlt]⟩
   obtain ⟨t0, t1, t2, t3⟩ := (hel m x hx).below hb hbl
   have hbad : a0s f x m = false → Hid (a6e f = false) := fun h => by
    unfold a6e; rw [a2c (p := fun i x => a0s f x i) hx h]; exact rfl
   have hnext : a0s f x m = true → Hid (a1w (fun i x => a0s f x i) f.is (m + 1)) := fun h => a1w.next (p := fun i x => a0s f x i) hx h hG.out
   replace hbad : Hid _ := hbad
   replace hnext : Hid _ := hnext
   clear hx hG hrow hel
   cases e1 : a0s f x m
   ·have hC := c7f f x m
    rw [e1, hpl.out] at hC
    replace e1 : Hid _ := e1
    go_wp2_with (go_at_call 61; refine (hC _).mono ?_; rintro e w3 ⟨rfl, hb3⟩)
    go_ret
    exact ⟨by rw [← hans.out, (hbad.out e1.out).out]; rfl, a0b (a0c hb _) hb3⟩
   ·have hC := c7f f x m
    rw [e1, hpl.out] at hC
    replace e1 : Hid _ := e1
    go_wp2_with (go_at_call 61; refine (hC _).mono ?_; rintro e w3 ⟨rfl, hb3⟩)
    go_roundw
    case rel => exact ⟨m + 1, hlt, by simp, (hnext.out e1.out), a0j hb3 ((Below.heap_alloc _ _ _ (Array.getElem?_eq_some_iff.1 hf).1).trans hf), a0b (a0c hb _) hb3⟩
    case measure => simp [intOf]; omega
  ·obtain rfl : m = f.is.length := by omega
   obtain ⟨x, hx⟩ : ∃ x, f.is[f.is.length - 1]? = some x := ⟨f.is[f.is.length - 1], List.getElem?_eq_getElem (by omega)⟩
   obtain ⟨t0, t1, t2, t3⟩ := (hel _ x hx).below hb hbl
   have he : a6e f = a8k x := by unfold a6e; rw [a2l hG.out, hx]; rfl
   replace he : Hid _ := he
   clear hx hG hrow hel
   have hi : ((f.is.length : Int) - 1).toNat = f.is.length - 1 := by omega
   have hi2 : (0 : Int) ≤ (f.is.length : Int) - 1 := by omega
   have hi3 : (f.is.length : Int) - 1 < (f.is.length : Int) := by omega
   have hi4 : wrap64 ((f.is.length : Int) - 1) = (f.is.length : Int) - 1 := a6d (by omega) (by omega)
   cases e1 : (x.op == 12)
   ·cases e2 : (x.op == 8)
    ·cases e3 : (x.op == 10)
     ·go_wp2
      go_ret
      exact ⟨by rw [← hans.out, he.out]; simp [a8k, e1, e2, e3], hb⟩
     ·go_wp2
      go_ret
      exact ⟨by rw [← hans.out, he.out]; simp [a8k, e1, e2, e3], hb⟩
    ·go_wp2
     go_ret
     exact ⟨by rw [← hans.out, he.out]; simp [a8k, e1, e2], hb⟩
   ·go_wp2
    go_ret
    exact ⟨by rw [← hans.out, he.out]; simp [a8k, e1], hb⟩
structure FAt (W : World) (b o : Nat) (f : Fd) : Prop where
 p : W.cell? ⟨b, o, none⟩ = some (.int .i64 f.p)
 r : W.cell? ⟨b, o + 1, none⟩ = some (.int .i64 f.r)
 c : W.cell? ⟨b, o + 2, none⟩ = some (.slice f.ca f.cs.length f.cc)
 i : W.cell? ⟨b, o + 3, none⟩ = some (.slice f.ia f.is.length f.ic)
theorem FAt.below (h : Below n₀ A B) {x : Fd} (hb : b < n₀) (t : FAt A b o x) : FAt B b o x :=
 ⟨(h.cell (p := ⟨b, o, none⟩) hb).trans t.p, (h.cell (p := ⟨b, o + 1, none⟩) hb).trans t.r, (h.cell (p := ⟨b, o + 2, none⟩) hb).trans t.c, (h.cell (p := ⟨b, o + 3, none⟩) hb).trans t.i⟩
def FdIn (n₀ : Nat) (W : World) (f : Fd) : Prop := RowV n₀ W f.ca f.cs ∧ RowI n₀ W f.ia f.is
theorem FdIn.below (h : Below n₀ A B) (t : FdIn n₀ A f) : FdIn n₀ B f := ⟨t.1.below h, t.2.below h⟩
theorem FdIn.mono (hm : n₀ ≤ m) (t : FdIn n₀ A f) : FdIn m A f := ⟨t.1.mono hm, t.2.mono hm⟩
theorem FdIn.at {w : World} (h : Below w.heap.size w W) (t : FdIn w.heap.size w f) : FdIn W.heap.size W f := (t.below h).mono h.size
def RowF (n₀ : Nat) (W : World) (a : Option Addr) (fs : List Fd) : Prop :=
 fs.length ≤ maxLen ∧ (fs ≠ [] → ∃ b off, a = some ⟨b, off, none⟩ ∧ b < n₀ ∧ ∀ j f, fs[j]? = some f → FAt W b (off + j * 4) f ∧ FdIn n₀ W f)
theorem RowF.below (h : Below n₀ A B) {xs : List Fd} (r : RowF n₀ A a xs) : RowF n₀ B a xs := by
 refine ⟨r.1, fun hne => ?_⟩
 obtain ⟨b, off, ea, hb, hc⟩ := r.2 hne
 exact ⟨b, off, ea, hb, fun j x hj => ⟨(hc j x hj).1.below h hb, (hc j x hj).2.below h⟩⟩
theorem RowF.mono (hm : n₀ ≤ m) {xs : List Fd} (r : RowF n₀ A a xs) : RowF m A a xs := by
 refine ⟨r.1, fun hne => ?_⟩
 obtain ⟨b, off, ea, hb, hc⟩ := r.2 hne
 exact ⟨b, off, ea, by omega, fun j x hj => ⟨(hc j x hj).1, (hc j x hj).2.mono hm⟩⟩
def fnB (nf : Int) (f : Fd) : Bool := a3x f && allB (fun _ => a2g nf) f.cs && a6e f
def c0p (fs : List Fd) (main : Int) : Bool := match fs[main.toNat]? with | some f => f.p == 0 | none => false
def a2i (fs : List Fd) (main : Int) : Bool :=
 decide (1 ≤ fs.length) && decide (fs.length ≤ 12) && belB main fs.length && c0p fs main && allB (fun _ => fnB fs.length) fs
theorem c9o (h : a3x f = true) : f.is ≠ [] := by
 intro e
 simp [a3x, frB, e] at h
theorem a0l {W' : World} (hb : Below W.heap.size W W') (h : W.cell? ⟨b, i, none⟩ = some v) : W'.cell? ⟨b, i, none⟩ = some v :=
 (hb.cell (p := ⟨b, i, none⟩) (World.block_lt_of_cell? _ _ h)).trans h
abbrev PV (a : Option Addr) (n c : Nat) (main : Int) : Value := .agg #[.slice a n c, .int .i64 main]
theorem d3x (a : Option Addr) (c : Nat) (fs : List Fd) (main : Int) (w : World) (h : (fs.length : Int) < 1) :
  Calls Tryz.prog 15 #[PV a fs.length c main] w fun e w' => e = .returned (.bool false) ∧ Below w.heap.size w w' := by
 go_enter Tryz.func15, Tryz.ntmps15
 go_wp2
 go_ret
 refine ⟨rfl, ?_⟩
 repeat (first | exact Below.refl _ _ | refine a0c ?_ _)
theorem d2b (a : Option Addr) (c : Nat) (fs : List Fd) (main : Int) (w : World) (h : ¬ (fs.length : Int) < 1) (h2 : (12 : Int) < (fs.length : Int)) :
  Calls Tryz.prog 15 #[PV a fs.length c main] w fun e w' => e = .returned (.bool false) ∧ Below w.heap.size w w' := by
 go_enter Tryz.func15, Tryz.ntmps15
 go_wp2
 go_ret
 refine ⟨rfl, ?_⟩
 repeat (first | exact Below.refl _ _ | refine a0c ?_ _)
theorem c5f (a : Option Addr) (c : Nat) (fs : List Fd) (main : Int) (w : World) (h : ¬ (fs.length : Int) < 1) (h2 : ¬ (12 : Int) < (fs.length : Int)) (h3 : belB main fs.length = false) :
  Calls Tryz.prog 15 #[PV a fs.length c main] w fun e w' => e = .returned (.bool false) ∧ Below w.heap.size w w' := by
 go_enter Tryz.func15, Tryz.ntmps15
 go_wp2_with (go_at_call 37; refine (a5f _ _ _).mono ?_; rw [h3]; rintro e w' ⟨rfl, rfl⟩)
 go_ret
 refine ⟨rfl, ?_⟩
 repeat (first | exact Below.refl _ _ | refine a0c ?_ _)
theorem b7e (b off c : Nat) (fs : List Fd) (main : Nat) (f : Fd) (w : World) (h : ¬ (fs.length : Int) < 1) (h2 : ¬ (12 : Int) < (fs.length : Int)) (h3 : belB main fs.length = true) (hm : main < fs.length) (hb : b < w.heap.size) (hc : w.cell? ⟨b, off + main * 4, none⟩ = some (.int .i64 f.p)) (hp : (f.p == 0) = false) :
  Calls Tryz.prog 15 #[PV (some ⟨b, off, none⟩) fs.length c main] w fun e w' => e = .returned (.bool false) ∧ Below w.heap.size w w' := by
 have hp' : (f.p != 0) = true := by rw [bne, hp]; rfl
 go_enter Tryz.func15, Tryz.ntmps15
 go_wp2_with (go_at_call 37; refine (a5f _ _ _).mono ?_; rw [h3]; rintro e w' ⟨rfl, rfl⟩)
 go_ret
 refine ⟨rfl, ?_⟩
 repeat (first | exact Below.refl _ _ | refine a0c ?_ _)
theorem c5g (b off c : Nat) (fs : List Fd) (main : Nat) (f : Fd) (w : World) (h : ¬ (fs.length : Int) < 1) (h2 : ¬ (12 : Int) < (fs.length : Int)) (h3 : belB main fs.length = true) (hm : main < fs.length) (hb : b < w.heap.size) (hc : w.cell? ⟨b, off + main * 4, none⟩ = some (.int .i64 f.p)) (hp : (f.p == 0) = true) (hel : ∀ j f, fs[j]? = some f → FAt w b (off + j * 4) f ∧ FdIn w.heap.size w f) :
  Calls Tryz.prog 15 #[PV (some ⟨b, off, none⟩) fs.length c main] w fun e w' => e = .returned (.bool (allB (fun _ => fnB fs.length) fs)) ∧ Below w.heap.size w w' := by
 have hp' : (f.p != 0) = false := by rw [bne, hp]; rfl
 have hf0 := a0h w (.cells #[.slice (some ⟨b, off, none⟩) fs.length c, .int .i64 main] 24)
 have hb0 : Below w.heap.size w (w.alloc (.cells #[.slice (some ⟨b, off, none⟩) fs.length c, .int .i64 main] 24)) := a0c (Below.refl _ _) _
 obtain ⟨ans, hans⟩ := exq (allB (fun _ => fnB fs.length) fs)
 rw [hans]
 replace hans : Hid _ := hans
 replace hel : Hid _ := hel
 go_enter Tryz.func15, Tryz.ntmps15
 go_wp2_with (go_at_call 37; refine (a5f _ _ _).mono ?_; rw [h3]; rintro e w' ⟨rfl, rfl⟩)
 go_loopw [37] (fun i wr => ∃ m : Nat, m ≤ fs.length ∧ i = .int .i64 m ∧ Hid (a1w (fun _ => fnB fs.length) fs m) ∧ wr.heap[w.heap.size]? = some (.cells #[.slice (some ⟨b, off, none⟩) fs.length c, .int .i64 main] 24) ∧ Below w.heap.size w wr) (fun i _ => fs.length - (intOf i).toNat)
 case atStart => exact ⟨0, Nat.zero_le _, rfl, a1w.zero, hf0, hb0⟩
 case round =>
  clear hf0 hb0
  obtain ⟨m, hm, rfl, hG, hf, hbw⟩ := hrel
  have c0 : wr.cell? ⟨w.heap.size, 0, none⟩ = some (.slice (some ⟨b, off, none⟩) fs.length c) := a1r hf rfl
  have hl0 : w.heap.size < wr.heap.size := (Array.getElem?_eq_some_iff.1 hf).1
  by_cases hlt : m < fs.length
  ·obtain ⟨x, hx⟩ : ∃ x, fs[m]? = some x := ⟨fs[m], by simp [hlt]⟩
   obtain ⟨hFA, hFI⟩ := hel.out m x hx
   obtain ⟨t0, t1, t2, t3⟩ := hFA.below hbw hb
   have hbad : fnB fs.length x = false → Hid (allB (fun _ => fnB fs.length) fs = false) := fun h => a2c hx h
   have hnext : fnB fs.length x = true → Hid (a1w (fun _ => fnB fs.length) fs (m + 1)) := fun h => a1w.next hx h hG.out
   replace hbad : Hid _ := hbad
   replace hnext : Hid _ := hnext
   clear hx hG hFA
   cases e1 : a3x x
   ·have hC := b5w x
    rw [e1] at hC
    replace e1 : Hid _ := e1
    replace hFI : Hid _ := hFI
    go_wp2_with (go_at_call 38; refine (hC _).mono ?_; rintro e w3 ⟨rfl, hb3⟩)
    go_ret
    exact ⟨by rw [← hans.out, (hbad.out (by simp [fnB, e1.out])).out]; rfl, a0b (a0c hbw _) hb3⟩
   ·have hC := b5w x
    rw [e1] at hC
    have hne := c9o e1
    replace e1 : Hid _ := e1
    have hC2 : ∀ W, Below w.heap.size w W → Calls Tryz.prog 39 #[.slice x.ca x.cs.length x.cc, .int .i64 fs.length] W _ := fun W hW => b7d x.ca x.cc x.cs fs.length W (hFI.at hW).1
    have hC3 : ∀ W, Below w.heap.size w W → Calls Tryz.prog 40 #[x.v] W _ := fun W hW => c5e x W (hFI.at hW).2 hne
    replace hFI : Hid _ := hFI
    cases e2 : allB (fun _ => a2g fs.length) x.cs
    ·rw [e2] at hC2
     replace e2 : Hid _ := e2
     clear hC3
     go_wp2_with (first | (go_at_call 38; refine (hC _).mono ?_; rintro e w3 ⟨rfl, hb3⟩; have v2 := a5j (i := 2) hb3 rfl; have b3 := a0b (a0c hbw _) hb3; have d0 := a1r (a0j hb3 ((Below.heap_alloc _ _ _ hl0).trans hf)) (i := 0) rfl) | (go_at_call 39; refine (hC2 _ b3).mono ?_; rintro e w4 ⟨rfl, hb4⟩))
     go_ret
     exact ⟨by rw [← hans.out, (hbad.out (by simp [fnB, e1.out, e2.out])).out]; rfl, a0b b3 hb4⟩
    ·rw [e2] at hC2
     replace e2 : Hid _ := e2
     cases e3 : a6e x
     ·rw [e3] at hC3
      replace e3 : Hid _ := e3
      go_wp2_with (first | (go_at_call 38; refine (hC _).mono ?_; rintro e w3 ⟨rfl, hb3⟩; have v0 := a5j (i := 0) hb3 rfl; have v1 := a5j (i := 1) hb3 rfl; have v2 := a5j (i := 2) hb3 rfl; have v3 := a5j (i := 3) hb3 rfl; have b3 := a0b (a0c hbw _) hb3; have f3 := a0j hb3 ((Below.heap_alloc _ _ _ hl0).trans hf); have d0 := a1r f3 (i := 0) rfl) | (go_at_call 39; refine (hC2 _ b3).mono ?_; rintro e w4 ⟨rfl, hb4⟩; have v0 := a0l hb4 v0; have v1 := a0l hb4 v1; have v2 := a0l hb4 v2; have v3 := a0l hb4 v3; have b4 := a0b b3 hb4; have f4 := a0j hb4 f3) | (go_at_call 40; refine (hC3 _ b4).mono ?_; rintro e w5 ⟨rfl, hb5⟩))
      go_ret
      exact ⟨by rw [← hans.out, (hbad.out (by simp [fnB, e1.out, e2.out, e3.out])).out]; rfl, a0b b4 hb5⟩
     ·rw [e3] at hC3
      replace e3 : Hid _ := e3
      go_wp2_with (first | (go_at_call 38; refine (hC _).mono ?_; rintro e w3 ⟨rfl, hb3⟩; have v0 := a5j (i := 0) hb3 rfl; have v1 := a5j (i := 1) hb3 rfl; have v2 := a5j (i := 2) hb3 rfl; have v3 := a5j (i := 3) hb3 rfl; have b3 := a0b (a0c hbw _) hb3; have f3 := a0j hb3 ((Below.heap_alloc _ _ _ hl0).trans hf); have d0 := a1r f3 (i := 0) rfl) | (go_at_call 39; refine (hC2 _ b3).mono ?_; rintro e w4 ⟨rfl, hb4⟩; have v0 := a0l hb4 v0; have v1 := a0l hb4 v1; have v2 := a0l hb4 v2; have v3 := a0l hb4 v3; have b4 := a0b b3 hb4; have f4 := a0j hb4 f3) | (go_at_call 40; refine (hC3 _ b4).mono ?_; rintro e w5 ⟨rfl, hb5⟩))
      go_roundw
      case rel => exact ⟨m + 1, hlt, by simp, (hnext.out (by simp [fnB, e1.out, e2.out, e3.out])), a0j hb5 f4, a0b b4 hb5⟩
      case measure => simp [intOf]; omega
  ·obtain rfl : m = fs.length := by omega
   go_wp2
   go_ret
   exact ⟨by rw [← hans.out, a2l hG.out]; rfl, hbw⟩
theorem b5x (a : Option Addr) (c : Nat) (fs : List Fd) (main : Int) (w : World) (hr : RowF w.heap.size w a fs) :
  Calls Tryz.prog 15 #[PV a fs.length c main] w fun e w' => e = .returned (.bool (a2i fs main)) ∧ Below w.heap.size w w' := by
 have key : ∀ b : Bool, a2i fs main = b → (Calls Tryz.prog 15 #[PV a fs.length c main] w fun e w' => e = .returned (.bool b) ∧ Below w.heap.size w w') → Calls Tryz.prog 15 #[PV a fs.length c main] w fun e w' => e = .returned (.bool (a2i fs main)) ∧ Below w.heap.size w w' := by
  intro b hb h; rw [hb]; exact h
 by_cases h1 : fs.length < 1
 ·exact key false (by
            have h : ¬ 1 ≤ fs.length := by omega
            simp [a2i, h]) (d3x a c fs main w (by omega))
 by_cases h2 : 12 < fs.length
 ·exact key false (by
            have h : ¬ fs.length ≤ 12 := by omega
            simp [a2i, h]) (d2b a c fs main w (by omega) (by omega))
 cases h3 : belB main fs.length
 ·exact key false (by simp [a2i, h3]) (c5f a c fs main w (by omega) (by omega) h3)
 have h4 : 0 ≤ main ∧ main < fs.length := by simpa [belB] using h3
 obtain ⟨n, rfl⟩ : ∃ n : Nat, main = n := ⟨main.toNat, by omega⟩
 have hn : n < fs.length := by omega
 obtain ⟨b, off, rfl, hb, hel⟩ := hr.2 (by intro e; subst e; simp at hn)
 obtain ⟨f, hf⟩ : ∃ f, fs[n]? = some f := ⟨fs[n], by simp [hn]⟩
 have hm : c0p fs n = (f.p == 0) := by simp [c0p, hf]
 cases h5 : (f.p == 0)
 ·exact key false (by simp [a2i, hm, h5]) (b7e b off c fs n f w (by omega) (by omega) h3 hn hb (hel n f hf).1.p h5)
 ·refine key _ ?_ (c5g b off c fs n f w (by omega) (by omega) h3 hn hb (hel n f hf).1.p h5 hel)
  have e1 : decide (1 ≤ fs.length) = true := by simp; omega
  have e2 : decide (fs.length ≤ 12) = true := by simp; omega
  unfold a2i
  rw [e1, e2, h3, hm, h5]
  rfl
end Go.Proofs.YthpgbienakcbeaaGreatDoor
