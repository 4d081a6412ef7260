/- Rows of constants: what the program says of them. -/
import Derived.Test.YtklgjfpgclelbaaCE
namespace Go.Proofs.Ytklgjfpgclelbaa
open Go.RowKit
open Go

/-- Three cells that hold a value. -/
structure Three (W : World) (b o : Nat) (x : Vl) : Prop where
  k : W.cell? ⟨b, o, none⟩ = some (.int .i64 x.k)
  n : W.cell? ⟨b, o + 1, none⟩ = some (.int .i64 x.n)
  s : W.cell? ⟨b, o + 2, none⟩ = some (.string x.s)
theorem Three.below {n₀ : Nat} {A B : World} (h : Below n₀ A B) {b o : Nat} {x : Vl} (hb : b < n₀) (t : Three A b o x) : Three B b o x :=
  ⟨(h.cell (p := ⟨b, o, none⟩) hb).trans t.k, (h.cell (p := ⟨b, o + 1, none⟩) hb).trans t.n, (h.cell (p := ⟨b, o + 2, none⟩) hb).trans t.s⟩
/-- Four cells that hold an order. -/
structure Four (W : World) (b o : Nat) (x : Od) : Prop where
  op : W.cell? ⟨b, o, none⟩ = some (.int .i64 x.op)
  a : W.cell? ⟨b, o + 1, none⟩ = some (.int .i64 x.a)
  bb : W.cell? ⟨b, o + 2, none⟩ = some (.int .i64 x.b)
  c : W.cell? ⟨b, o + 3, none⟩ = some (.int .i64 x.c)
theorem Four.below {n₀ : Nat} {A B : World} (h : Below n₀ A B) {b o : Nat} {x : Od} (hb : b < n₀) (t : Four A b o x) : Four B b o x :=
  ⟨(h.cell (p := ⟨b, o, none⟩) hb).trans t.op, (h.cell (p := ⟨b, o + 1, none⟩) hb).trans t.a, (h.cell (p := ⟨b, o + 2, none⟩) hb).trans t.bb, (h.cell (p := ⟨b, o + 3, none⟩) hb).trans t.c⟩

def RowV (n₀ : Nat) (W : World) (a : Option Addr) (xs : List Vl) : Prop :=
  xs.length ≤ maxLen ∧ (xs ≠ [] → ∃ b off, a = some ⟨b, off, none⟩ ∧ b < n₀ ∧ ∀ j x, xs[j]? = some x → Three W b (off + j * 3) x)
def RowI (n₀ : Nat) (W : World) (a : Option Addr) (xs : List Od) : Prop :=
  xs.length ≤ maxLen ∧ (xs ≠ [] → ∃ b off, a = some ⟨b, off, none⟩ ∧ b < n₀ ∧ ∀ j x, xs[j]? = some x → Four W b (off + j * 4) x)
theorem RowV.below {n₀ : Nat} {A B : World} (h : Below n₀ A B) {a : Option Addr} {xs : List Vl} (r : RowV n₀ A a xs) : RowV n₀ B a xs := by
  refine ⟨r.1, fun hne => ?_⟩
  obtain ⟨b, off, ea, hb, hc⟩ := r.2 hne
  exact ⟨b, off, ea, hb, fun j x hj => (hc j x hj).below h hb⟩
theorem RowI.below {n₀ : Nat} {A B : World} (h : Below n₀ A B) {a : Option Addr} {xs : List Od} (r : RowI n₀ A a xs) : RowI n₀ B a xs := by
  refine ⟨r.1, fun hne => ?_⟩
  obtain ⟨b, off, ea, hb, hc⟩ := r.2 hne
  exact ⟨b, off, ea, hb, fun j x hj => (hc j x hj).below h hb⟩
theorem RowV.mono {n₀ m : Nat} (hm : n₀ ≤ m) {A : World} {a : Option Addr} {xs : List Vl} (r : RowV n₀ A a xs) : RowV m A a xs := by
  refine ⟨r.1, fun hne => ?_⟩
  obtain ⟨b, off, ea, hb, hc⟩ := r.2 hne
  exact ⟨b, off, ea, by omega, hc⟩
theorem RowI.mono {n₀ m : Nat} (hm : n₀ ≤ m) {A : World} {a : Option Addr} {xs : List Od} (r : RowI n₀ A a xs) : RowI m A a xs := by
  refine ⟨r.1, fun hne => ?_⟩
  obtain ⟨b, off, ea, hb, hc⟩ := r.2 hne
  exact ⟨b, off, ea, by omega, hc⟩

theorem in_box {wr w3 : World} {c : Array Value} {t : TypeId} {i : Nat} {v : Value} (hb : Below (wr.alloc (.cells c t)).heap.size (wr.alloc (.cells c t)) w3) (h : c[i]? = some v) : w3.cell? ⟨wr.heap.size, i, none⟩ = some v :=
  (hb.cell (p := ⟨wr.heap.size, i, none⟩) (by simp)).trans (cell_block (heap_new _ _) h)

theorem le_lit {n : Nat} (hn : n ≤ maxLen) : n ≤ 9223372036854775807 := by
  have : maxLen = 9223372036854775807 := by decide
  omega

/-- A constant that may be, among so many functions. -/
def constB (nf : Int) (x : Vl) : Bool := mayB x.k x.n x.s && !(x.k == 4) && !(x.k == 5 && decide (nf ≤ x.n))
def AllTo {α : Type} (p : Nat → α → Bool) (xs : List α) (m : Nat) : Prop := ∀ j x, j < m → xs[j]? = some x → p j x = true
def allB {α : Type} (p : Nat → α → Bool) (xs : List α) : Bool := (List.range xs.length).all fun j => match xs[j]? with | some x => p j x | none => true
theorem allB_true {α : Type} {p : Nat → α → Bool} {xs : List α} (h : AllTo p xs xs.length) : allB p xs = true := by
  unfold allB
  rw [List.all_eq_true]
  intro j hj
  cases e : xs[j]? with
  | none => rfl
  | some x => exact h j x (List.mem_range.1 hj) e
theorem allB_false {α : Type} {p : Nat → α → Bool} {xs : List α} {j : Nat} {x : α} (hx : xs[j]? = some x) (h : p j x = false) : allB p xs = false := by
  cases e : allB p xs
  · rfl
  · unfold allB at e
    rw [List.all_eq_true] at e
    have := e j (List.mem_range.2 (List.getElem?_eq_some_iff.1 hx).1)
    simp only [hx] at this
    rw [h] at this
    cases this
theorem AllTo.zero {α : Type} {p : Nat → α → Bool} {xs : List α} : AllTo p xs 0 := fun _ _ h => by omega
theorem AllTo.next {α : Type} {p : Nat → α → Bool} {xs : List α} {m : Nat} {x : α} (hx : xs[m]? = some x) (hp : p m x = true) (h : AllTo p xs m) : AllTo p xs (m + 1) := fun j y hj hy => by
  rcases Nat.lt_or_ge j m with h' | h'
  · exact h j y h' hy
  · obtain rfl : j = m := by omega
    rw [hx] at hy
    cases hy
    exact hp

set_option maxRecDepth 100000 in
set_option maxHeartbeats 2000000 in
theorem consts_any (a : Option Addr) (c : Nat) (cs : List Vl) (nf : Int) (w : World) (hr : RowV w.heap.size w a cs) :
    Calls Try.prog 8 #[.slice a cs.length c, .int .i64 nf] w fun e w' => e = .returned (.bool (allB (fun _ => constB nf) cs)) ∧ Below w.heap.size w w' := by
  obtain ⟨hlen, hrow⟩ := hr
  replace hlen := le_lit hlen
  go_enter Try.func8, Try.ntmps8
  go_wp2
  go_loopw [9] (fun i wr => ∃ m : Nat, m ≤ cs.length ∧ i = .int .i64 m ∧ Hid (AllTo (fun _ => constB nf) cs m) ∧ Below w.heap.size w wr) (fun i _ => cs.length - (intOf i).toNat)
  case atStart => exact ⟨0, Nat.zero_le _, rfl, AllTo.zero, Below.refl _ _⟩
  case round =>
    obtain ⟨m, hm, rfl, hG, hb⟩ := hrel
    by_cases hlt : m < cs.length
    · obtain ⟨x, hx⟩ : ∃ x, cs[m]? = some x := ⟨cs[m], by simp [hlt]⟩
      obtain ⟨b, off, rfl, hbl, hel⟩ := hrow (by intro e; subst e; simp at hlt)
      obtain ⟨t0, t1, t2⟩ := (hel m x hx).below hb hbl
      have hbad : constB nf x = false → Hid (allB (fun _ => constB nf) cs = false) := fun h => allB_false hx h
      have hnext : constB nf x = true → Hid (AllTo (fun _ => constB nf) cs (m + 1)) := fun h => AllTo.next hx h hG.out
      replace hbad : Hid _ := hbad
      replace hnext : Hid _ := hnext
      clear hx hG hrow hel
      cases e1 : mayB x.k x.n x.s
      · have hC := fun w => may_f x.k x.n x.s w e1
        replace e1 : Hid _ := e1
        go_wp2_with (go_at_call 12; refine (hC _).mono ?_; rintro e w3 ⟨rfl, hb3⟩)
        go_ret
        exact ⟨by rw [(hbad.out (by simp [constB, e1.out])).out]; rfl, ext_trans (ext_alloc hb _) hb3⟩
      · have hC := fun w => may_t x.k x.n x.s w e1
        replace e1 : Hid _ := e1
        go_wp2_with (go_at_call 12; refine (hC _).mono ?_; rintro e w3 ⟨rfl, hb3⟩; have v0 := in_box (i := 0) hb3 rfl; have v1 := in_box (i := 1) hb3 rfl; refine Hid.out ?_)
        replace hb := ext_trans (ext_alloc hb _) hb3
        clear t0 t1 t2 hb3 hC
        refine Lib.hid ?_
        cases e4 : (x.k == 4)
        · cases e5 : (x.k == 5)
          · go_wp2
            go_roundw
            case rel => exact ⟨m + 1, hlt, by simp, (hnext.out (by simp [constB, e1.out, e4, e5])), hb⟩
            case measure => simp [intOf]; omega
          · cases e6 : decide (nf ≤ x.n)
            · go_wp2
              go_roundw
              case rel => exact ⟨m + 1, hlt, by simp, (hnext.out (by simp [constB, e1.out, e4, e5, e6])), hb⟩
              case measure => simp [intOf]; omega
            · go_wp2
              go_ret
              exact ⟨by rw [(hbad.out (by simp [constB, e1.out, e4, e5, e6])).out]; rfl, hb⟩
        · go_wp2
          go_ret
          exact ⟨by rw [(hbad.out (by simp [constB, e1.out, e4])).out]; rfl, hb⟩
    · obtain rfl : m = cs.length := by omega
      go_wp2
      go_ret
      exact ⟨by rw [allB_true hG.out]; rfl, hb⟩
end Go.Proofs.Ytklgjfpgclelbaa
