/- An order at its place: what the program and the document say of it. -/
import Derived.Test.YtklgjfpgclelbaaCC1
import Derived.Test.YtklgjfpgclelbaaCC2
import Derived.Test.YtklgjfpgclelbaaCC3
import Derived.Test.YtklgjfpgclelbaaCC4
import Derived.Test.YtklgjfpgclelbaaCD1
import Derived.Test.YtklgjfpgclelbaaCD2
import Derived.Test.YtklgjfpgclelbaaCD3
import Derived.Test.YtklgjfpgclelbaaCD4
namespace Go.Proofs.Ytklgjfpgclelbaa
open Go.RowKit
open Go

/-- G1: may an order be, at a place? -/
def instrB (f : Fd) (x : Od) (i : Nat) : Bool :=
  match fieldsR x.op with
  | none => false
  | some l =>
    if l = [23, 23] then (belB x.a f.r) && (belB x.b f.r) && (x.c == 0)
    else if l = [23, 24] then (belB x.a f.r) && (belB x.b f.cs.length) && (x.c == 0)
    else if l = [23] then (belB x.a f.r) && (x.b == 0) && (x.c == 0)
    else if l = [23, 23, 23] then (belB x.a f.r) && (belB x.b f.r) && (belB x.c f.r)
    else if l = [25] then (belB x.a f.is.length) && (x.b == 0) && (x.c == 0)
    else if l = [23, 25] then (belB x.a f.r) && (belB x.b f.is.length) && (x.c == 0)
    else if l = [26] then (frB 0 x.a i) && (x.b == 0) && (x.c == 0)
    else if l = [23, 23, 27] then (belB x.a f.r) && (belB x.b f.r) && (argB f x x.c)
    else false

theorem fieldsR_lists {op : Int} {l : List Nat} (h : fieldsR op = some l) : l = [23, 23] ∨ l = [23, 24] ∨ l = [23] ∨ l = [23, 23, 23] ∨ l = [25] ∨ l = [23, 25] ∨ l = [26] ∨ l = [23, 23, 27] := by
  unfold fieldsR at h
  repeat' split at h
  all_goals first | (cases h; simp) | cases h

theorem mo_none (f : Fd) (x : Od) (i : Nat) (w : World) (hl : fieldsR x.op = none) :
    Calls Try.prog 13 #[plc f x i] w fun e w' => e = .returned (.bool false) ∧ Below w.heap.size w w' := by
  have hF := fields_none x.op hl
  clear hl
  have hnil := eql46
  go_enter Try.func13, Try.ntmps13
  go_wp2_with (go_at_call 17; refine (hF _).mono ?_; rintro e w' ⟨rfl, rfl⟩)
  go_ret
  refine ⟨rfl, ?_⟩
  repeat (first | exact Below.refl _ _ | refine ext_alloc ?_ _)

/-- The program's mayOrder. -/
theorem mo_any (f : Fd) (x : Od) (i : Nat) (w : World) :
    Calls Try.prog 13 #[plc f x i] w fun e w' => e = .returned (.bool (instrB f x i)) ∧ Below w.heap.size w w' := by
  have key : ∀ b : Bool, instrB f x i = b → (Calls Try.prog 13 #[plc f x i] w fun e w' => e = .returned (.bool b) ∧ Below w.heap.size w w') → Calls Try.prog 13 #[plc f x i] w fun e w' => e = .returned (.bool (instrB f x i)) ∧ Below w.heap.size w w' := by
    intro b hb h; rw [hb]; exact h
  cases hl : fieldsR x.op with
  | none => exact key false (by simp [instrB, hl]) (mo_none f x i w hl)
  | some l =>
    rcases fieldsR_lists hl with rfl | rfl | rfl | rfl | rfl | rfl | rfl | rfl
    · have e : instrB f x i = ((belB x.a f.r) && (belB x.b f.r) && (x.c == 0)) := by simp [instrB, hl]
      cases h0 : (belB x.a f.r)
      · exact key false (by rw [e, h0]; rfl) (mo_23_23_0 f x i w hl h0)
      · cases h1 : (belB x.b f.r)
        · exact key false (by rw [e, h0, h1]; rfl) (mo_23_23_1 f x i w hl h0 h1)
        · cases h2 : (x.c == 0)
          · exact key false (by rw [e, h0, h1, h2]; rfl) (mo_23_23_2 f x i w hl h0 h1 h2)
          · exact key true (by rw [e, h0, h1, h2]; rfl) (mo_23_23_3 f x i w hl h0 h1 h2)
    · have e : instrB f x i = ((belB x.a f.r) && (belB x.b f.cs.length) && (x.c == 0)) := by simp [instrB, hl]
      cases h0 : (belB x.a f.r)
      · exact key false (by rw [e, h0]; rfl) (mo_23_24_0 f x i w hl h0)
      · cases h1 : (belB x.b f.cs.length)
        · exact key false (by rw [e, h0, h1]; rfl) (mo_23_24_1 f x i w hl h0 h1)
        · cases h2 : (x.c == 0)
          · exact key false (by rw [e, h0, h1, h2]; rfl) (mo_23_24_2 f x i w hl h0 h1 h2)
          · exact key true (by rw [e, h0, h1, h2]; rfl) (mo_23_24_3 f x i w hl h0 h1 h2)
    · have e : instrB f x i = ((belB x.a f.r) && (x.b == 0) && (x.c == 0)) := by simp [instrB, hl]
      cases h0 : (belB x.a f.r)
      · exact key false (by rw [e, h0]; rfl) (mo_23_0 f x i w hl h0)
      · cases h1 : (x.b == 0)
        · exact key false (by rw [e, h0, h1]; rfl) (mo_23_1 f x i w hl h0 h1)
        · cases h2 : (x.c == 0)
          · exact key false (by rw [e, h0, h1, h2]; rfl) (mo_23_2 f x i w hl h0 h1 h2)
          · exact key true (by rw [e, h0, h1, h2]; rfl) (mo_23_3 f x i w hl h0 h1 h2)
    · have e : instrB f x i = ((belB x.a f.r) && (belB x.b f.r) && (belB x.c f.r)) := by simp [instrB, hl]
      cases h0 : (belB x.a f.r)
      · exact key false (by rw [e, h0]; rfl) (mo_23_23_23_0 f x i w hl h0)
      · cases h1 : (belB x.b f.r)
        · exact key false (by rw [e, h0, h1]; rfl) (mo_23_23_23_1 f x i w hl h0 h1)
        · cases h2 : (belB x.c f.r)
          · exact key false (by rw [e, h0, h1, h2]; rfl) (mo_23_23_23_2 f x i w hl h0 h1 h2)
          · exact key true (by rw [e, h0, h1, h2]; rfl) (mo_23_23_23_3 f x i w hl h0 h1 h2)
    · have e : instrB f x i = ((belB x.a f.is.length) && (x.b == 0) && (x.c == 0)) := by simp [instrB, hl]
      cases h0 : (belB x.a f.is.length)
      · exact key false (by rw [e, h0]; rfl) (mo_25_0 f x i w hl h0)
      · cases h1 : (x.b == 0)
        · exact key false (by rw [e, h0, h1]; rfl) (mo_25_1 f x i w hl h0 h1)
        · cases h2 : (x.c == 0)
          · exact key false (by rw [e, h0, h1, h2]; rfl) (mo_25_2 f x i w hl h0 h1 h2)
          · exact key true (by rw [e, h0, h1, h2]; rfl) (mo_25_3 f x i w hl h0 h1 h2)
    · have e : instrB f x i = ((belB x.a f.r) && (belB x.b f.is.length) && (x.c == 0)) := by simp [instrB, hl]
      cases h0 : (belB x.a f.r)
      · exact key false (by rw [e, h0]; rfl) (mo_23_25_0 f x i w hl h0)
      · cases h1 : (belB x.b f.is.length)
        · exact key false (by rw [e, h0, h1]; rfl) (mo_23_25_1 f x i w hl h0 h1)
        · cases h2 : (x.c == 0)
          · exact key false (by rw [e, h0, h1, h2]; rfl) (mo_23_25_2 f x i w hl h0 h1 h2)
          · exact key true (by rw [e, h0, h1, h2]; rfl) (mo_23_25_3 f x i w hl h0 h1 h2)
    · have e : instrB f x i = ((frB 0 x.a i) && (x.b == 0) && (x.c == 0)) := by simp [instrB, hl]
      cases h0 : (frB 0 x.a i)
      · exact key false (by rw [e, h0]; rfl) (mo_26_0 f x i w hl h0)
      · cases h1 : (x.b == 0)
        · exact key false (by rw [e, h0, h1]; rfl) (mo_26_1 f x i w hl h0 h1)
        · cases h2 : (x.c == 0)
          · exact key false (by rw [e, h0, h1, h2]; rfl) (mo_26_2 f x i w hl h0 h1 h2)
          · exact key true (by rw [e, h0, h1, h2]; rfl) (mo_26_3 f x i w hl h0 h1 h2)
    · have e : instrB f x i = ((belB x.a f.r) && (belB x.b f.r) && (argB f x x.c)) := by simp [instrB, hl]
      cases h0 : (belB x.a f.r)
      · exact key false (by rw [e, h0]; rfl) (mo_23_23_27_0 f x i w hl h0)
      · cases h1 : (belB x.b f.r)
        · exact key false (by rw [e, h0, h1]; rfl) (mo_23_23_27_1 f x i w hl h0 h1)
        · cases h2 : (argB f x x.c)
          · exact key false (by rw [e, h0, h1, h2]; rfl) (mo_23_23_27_2 f x i w hl h0 h1 h2)
          · exact key true (by rw [e, h0, h1, h2]; rfl) (mo_23_23_27_3 f x i w hl h0 h1 h2)

abbrev RI (f : Fd) (x : Od) (i : Nat) (w : World) (b : Bool) : Prop := Calls Try.prog 15 #[f.v, x.v, .int .i64 i] w fun e w' => e = .returned (.bool b) ∧ Below w.heap.size w w'

theorem show_eq {f : Fd} {v : Value} {i : Nat} {w : World} {b c : Bool} (h : Calls Try.prog 15 #[f.v, v, .int .i64 i] w fun e w' => e = .returned (.bool b) ∧ Below w.heap.size w w') (hb : b = c) : Calls Try.prog 15 #[f.v, v, .int .i64 i] w fun e w' => e = .returned (.bool c) ∧ Below w.heap.size w w' := hb ▸ h
theorem wrap64_id {n : Int} (h1 : -9223372036854775808 ≤ n) (h2 : n ≤ 9223372036854775807) : wrap64 n = n := by
  unfold wrap64
  omega

theorem ri_at_1 (f : Fd) (x : Od) (i : Nat) (w : World) (ho : x.op = 1) : RI f x i w (instrB f x i) := by
  have e : instrB f x i = ((belB x.a f.r) && (belB x.b f.r) && (x.c == 0)) := by simp [instrB, ho, fieldsR]
  have hx : x.v = .agg #[.int .i64 1, .int .i64 x.a, .int .i64 x.b, .int .i64 x.c] := by rw [← ho]
  rw [RI, hx]
  cases h0 : (belB x.a f.r)
  · have := ri_1_0 f x.a x.b x.c i w h0
    exact show_eq this (by rw [e]; show false = ((belB x.a f.r) && (belB x.b f.r) && (x.c == 0)); rw [h0]; rfl)
  cases h1 : (belB x.b f.r)
  · have := ri_1_1 f x.a x.b x.c i w h0 h1
    exact show_eq this (by rw [e]; show false = ((belB x.a f.r) && (belB x.b f.r) && (x.c == 0)); rw [h0, h1]; rfl)
  have := ri_1_2 f x.a x.b x.c i w h0 h1
  exact show_eq this (by rw [e]; show (x.c == 0) = ((belB x.a f.r) && (belB x.b f.r) && (x.c == 0)); rw [h0, h1]; rfl)
theorem ri_at_2 (f : Fd) (x : Od) (i : Nat) (w : World) (ho : x.op = 2) : RI f x i w (instrB f x i) := by
  have e : instrB f x i = ((belB x.a f.r) && (belB x.b f.cs.length) && (x.c == 0)) := by simp [instrB, ho, fieldsR]
  have hx : x.v = .agg #[.int .i64 2, .int .i64 x.a, .int .i64 x.b, .int .i64 x.c] := by rw [← ho]
  rw [RI, hx]
  cases h0 : (belB x.a f.r)
  · have := ri_2_0 f x.a x.b x.c i w h0
    exact show_eq this (by rw [e]; show false = ((belB x.a f.r) && (decide (0 ≤ x.b) && decide (x.b < f.cs.length)) && (x.c == 0)); rw [h0]; rfl)
  cases h1 : (decide (0 ≤ x.b))
  · have := ri_2_1 f x.a x.b x.c i w h0 h1
    exact show_eq this (by rw [e]; show false = ((belB x.a f.r) && (decide (0 ≤ x.b) && decide (x.b < f.cs.length)) && (x.c == 0)); rw [h0, h1]; rfl)
  cases h2 : (decide (x.b < f.cs.length))
  · have := ri_2_2 f x.a x.b x.c i w h0 h1 h2
    exact show_eq this (by rw [e]; show false = ((belB x.a f.r) && (decide (0 ≤ x.b) && decide (x.b < f.cs.length)) && (x.c == 0)); rw [h0, h1, h2]; rfl)
  have := ri_2_3 f x.a x.b x.c i w h0 h1 h2
  exact show_eq this (by rw [e]; show (x.c == 0) = ((belB x.a f.r) && (decide (0 ≤ x.b) && decide (x.b < f.cs.length)) && (x.c == 0)); rw [h0, h1, h2]; rfl)
theorem ri_at_3 (f : Fd) (x : Od) (i : Nat) (w : World) (ho : x.op = 3) : RI f x i w (instrB f x i) := by
  have e : instrB f x i = ((belB x.a f.r) && (x.b == 0) && (x.c == 0)) := by simp [instrB, ho, fieldsR]
  have hx : x.v = .agg #[.int .i64 3, .int .i64 x.a, .int .i64 x.b, .int .i64 x.c] := by rw [← ho]
  rw [RI, hx]
  cases h0 : (belB x.a f.r)
  · have := ri_3_0 f x.a x.b x.c i w h0
    exact show_eq this (by rw [e]; show false = ((belB x.a f.r) && (x.b == 0) && (x.c == 0)); rw [h0]; rfl)
  cases h1 : (x.b == 0)
  · have := ri_3_1 f x.a x.b x.c i w h0 h1
    exact show_eq this (by rw [e]; show false = ((belB x.a f.r) && (x.b == 0) && (x.c == 0)); rw [h0, h1]; rfl)
  have := ri_3_2 f x.a x.b x.c i w h0 h1
  exact show_eq this (by rw [e]; show (x.c == 0) = ((belB x.a f.r) && (x.b == 0) && (x.c == 0)); rw [h0, h1]; rfl)
theorem ri_at_4 (f : Fd) (x : Od) (i : Nat) (w : World) (ho : x.op = 4) : RI f x i w (instrB f x i) := by
  have e : instrB f x i = ((belB x.a f.r) && (belB x.b f.r) && (belB x.c f.r)) := by simp [instrB, ho, fieldsR]
  have hx : x.v = .agg #[.int .i64 4, .int .i64 x.a, .int .i64 x.b, .int .i64 x.c] := by rw [← ho]
  rw [RI, hx]
  cases h0 : (belB x.a f.r)
  · have := ri_4_0 f x.a x.b x.c i w h0
    exact show_eq this (by rw [e]; show false = ((belB x.a f.r) && (belB x.b f.r) && (belB x.c f.r)); rw [h0]; rfl)
  cases h1 : (belB x.b f.r)
  · have := ri_4_1 f x.a x.b x.c i w h0 h1
    exact show_eq this (by rw [e]; show false = ((belB x.a f.r) && (belB x.b f.r) && (belB x.c f.r)); rw [h0, h1]; rfl)
  have := ri_4_2 f x.a x.b x.c i w h0 h1
  exact show_eq this (by rw [e]; show (belB x.c f.r) = ((belB x.a f.r) && (belB x.b f.r) && (belB x.c f.r)); rw [h0, h1]; rfl)
theorem ri_at_5 (f : Fd) (x : Od) (i : Nat) (w : World) (ho : x.op = 5) : RI f x i w (instrB f x i) := by
  have e : instrB f x i = ((belB x.a f.r) && (belB x.b f.r) && (belB x.c f.r)) := by simp [instrB, ho, fieldsR]
  have hx : x.v = .agg #[.int .i64 5, .int .i64 x.a, .int .i64 x.b, .int .i64 x.c] := by rw [← ho]
  rw [RI, hx]
  cases h0 : (belB x.a f.r)
  · have := ri_5_0 f x.a x.b x.c i w h0
    exact show_eq this (by rw [e]; show false = ((belB x.a f.r) && (belB x.b f.r) && (belB x.c f.r)); rw [h0]; rfl)
  cases h1 : (belB x.b f.r)
  · have := ri_5_1 f x.a x.b x.c i w h0 h1
    exact show_eq this (by rw [e]; show false = ((belB x.a f.r) && (belB x.b f.r) && (belB x.c f.r)); rw [h0, h1]; rfl)
  have := ri_5_2 f x.a x.b x.c i w h0 h1
  exact show_eq this (by rw [e]; show (belB x.c f.r) = ((belB x.a f.r) && (belB x.b f.r) && (belB x.c f.r)); rw [h0, h1]; rfl)
theorem ri_at_6 (f : Fd) (x : Od) (i : Nat) (w : World) (ho : x.op = 6) : RI f x i w (instrB f x i) := by
  have e : instrB f x i = ((belB x.a f.r) && (belB x.b f.r) && (x.c == 0)) := by simp [instrB, ho, fieldsR]
  have hx : x.v = .agg #[.int .i64 6, .int .i64 x.a, .int .i64 x.b, .int .i64 x.c] := by rw [← ho]
  rw [RI, hx]
  cases h0 : (belB x.a f.r)
  · have := ri_6_0 f x.a x.b x.c i w h0
    exact show_eq this (by rw [e]; show false = ((belB x.a f.r) && (belB x.b f.r) && (x.c == 0)); rw [h0]; rfl)
  cases h1 : (belB x.b f.r)
  · have := ri_6_1 f x.a x.b x.c i w h0 h1
    exact show_eq this (by rw [e]; show false = ((belB x.a f.r) && (belB x.b f.r) && (x.c == 0)); rw [h0, h1]; rfl)
  have := ri_6_2 f x.a x.b x.c i w h0 h1
  exact show_eq this (by rw [e]; show (x.c == 0) = ((belB x.a f.r) && (belB x.b f.r) && (x.c == 0)); rw [h0, h1]; rfl)
theorem ri_at_7 (f : Fd) (x : Od) (i : Nat) (w : World) (ho : x.op = 7) : RI f x i w (instrB f x i) := by
  have e : instrB f x i = ((belB x.a f.r) && (belB x.b f.r) && (belB x.c f.r)) := by simp [instrB, ho, fieldsR]
  have hx : x.v = .agg #[.int .i64 7, .int .i64 x.a, .int .i64 x.b, .int .i64 x.c] := by rw [← ho]
  rw [RI, hx]
  cases h0 : (belB x.a f.r)
  · have := ri_7_0 f x.a x.b x.c i w h0
    exact show_eq this (by rw [e]; show false = ((belB x.a f.r) && (belB x.b f.r) && (belB x.c f.r)); rw [h0]; rfl)
  cases h1 : (belB x.b f.r)
  · have := ri_7_1 f x.a x.b x.c i w h0 h1
    exact show_eq this (by rw [e]; show false = ((belB x.a f.r) && (belB x.b f.r) && (belB x.c f.r)); rw [h0, h1]; rfl)
  have := ri_7_2 f x.a x.b x.c i w h0 h1
  exact show_eq this (by rw [e]; show (belB x.c f.r) = ((belB x.a f.r) && (belB x.b f.r) && (belB x.c f.r)); rw [h0, h1]; rfl)
theorem ri_at_8 (f : Fd) (x : Od) (i : Nat) (w : World) (ho : x.op = 8) : RI f x i w (instrB f x i) := by
  have e : instrB f x i = ((belB x.a f.is.length) && (x.b == 0) && (x.c == 0)) := by simp [instrB, ho, fieldsR]
  have hx : x.v = .agg #[.int .i64 8, .int .i64 x.a, .int .i64 x.b, .int .i64 x.c] := by rw [← ho]
  rw [RI, hx]
  cases h0 : (belB x.a f.is.length)
  · have := ri_8_0 f x.a x.b x.c i w h0
    exact show_eq this (by rw [e]; show false = ((belB x.a f.is.length) && (x.b == 0) && (x.c == 0)); rw [h0]; rfl)
  cases h1 : (x.b == 0)
  · have := ri_8_1 f x.a x.b x.c i w h0 h1
    exact show_eq this (by rw [e]; show false = ((belB x.a f.is.length) && (x.b == 0) && (x.c == 0)); rw [h0, h1]; rfl)
  have := ri_8_2 f x.a x.b x.c i w h0 h1
  exact show_eq this (by rw [e]; show (x.c == 0) = ((belB x.a f.is.length) && (x.b == 0) && (x.c == 0)); rw [h0, h1]; rfl)
theorem ri_at_9 (f : Fd) (x : Od) (i : Nat) (w : World) (ho : x.op = 9) : RI f x i w (instrB f x i) := by
  have e : instrB f x i = ((belB x.a f.r) && (belB x.b f.is.length) && (x.c == 0)) := by simp [instrB, ho, fieldsR]
  have hx : x.v = .agg #[.int .i64 9, .int .i64 x.a, .int .i64 x.b, .int .i64 x.c] := by rw [← ho]
  rw [RI, hx]
  cases h0 : (belB x.a f.r)
  · have := ri_9_0 f x.a x.b x.c i w h0
    exact show_eq this (by rw [e]; show false = ((belB x.a f.r) && (belB x.b f.is.length) && (x.c == 0)); rw [h0]; rfl)
  cases h1 : (belB x.b f.is.length)
  · have := ri_9_1 f x.a x.b x.c i w h0 h1
    exact show_eq this (by rw [e]; show false = ((belB x.a f.r) && (belB x.b f.is.length) && (x.c == 0)); rw [h0, h1]; rfl)
  have := ri_9_2 f x.a x.b x.c i w h0 h1
  exact show_eq this (by rw [e]; show (x.c == 0) = ((belB x.a f.r) && (belB x.b f.is.length) && (x.c == 0)); rw [h0, h1]; rfl)
theorem ri_at_10 (f : Fd) (x : Od) (i : Nat) (w : World) (ho : x.op = 10) : RI f x i w (instrB f x i) := by
  have e : instrB f x i = ((frB 0 x.a i) && (x.b == 0) && (x.c == 0)) := by simp [instrB, ho, fieldsR]
  have hx : x.v = .agg #[.int .i64 10, .int .i64 x.a, .int .i64 x.b, .int .i64 x.c] := by rw [← ho]
  rw [RI, hx]
  cases h0 : (decide (0 ≤ x.a))
  · have := ri_10_0 f x.a x.b x.c i w h0
    exact show_eq this (by rw [e]; show false = ((decide (0 ≤ x.a) && decide (x.a ≤ i)) && (x.b == 0) && (x.c == 0)); rw [h0]; rfl)
  cases h1 : (decide (x.a ≤ i))
  · have := ri_10_1 f x.a x.b x.c i w h0 h1
    exact show_eq this (by rw [e]; show false = ((decide (0 ≤ x.a) && decide (x.a ≤ i)) && (x.b == 0) && (x.c == 0)); rw [h0, h1]; rfl)
  cases h2 : (x.b == 0)
  · have := ri_10_2 f x.a x.b x.c i w h0 h1 h2
    exact show_eq this (by rw [e]; show false = ((decide (0 ≤ x.a) && decide (x.a ≤ i)) && (x.b == 0) && (x.c == 0)); rw [h0, h1, h2]; rfl)
  have := ri_10_3 f x.a x.b x.c i w h0 h1 h2
  exact show_eq this (by rw [e]; show (x.c == 0) = ((decide (0 ≤ x.a) && decide (x.a ≤ i)) && (x.b == 0) && (x.c == 0)); rw [h0, h1, h2]; rfl)
theorem ri_at_11 (f : Fd) (x : Od) (i : Nat) (w : World) (ho : x.op = 11) : RI f x i w (instrB f x i) := by
  have e : instrB f x i = ((belB x.a f.r) && (belB x.b f.r) && (argB f x x.c)) := by simp [instrB, ho, fieldsR]
  have hx : x.v = .agg #[.int .i64 11, .int .i64 x.a, .int .i64 x.b, .int .i64 x.c] := by rw [← ho]
  rw [RI, hx]
  cases h0 : (belB x.a f.r)
  · have := ri_11_0 f x.a x.b x.c i w h0
    exact show_eq this (by rw [e]; show false = ((belB x.a f.r) && (belB x.b f.r) && ((decide (0 ≤ x.c) && decide (x.c ≤ 5)) && belB (wrap64 (x.b + x.c)) f.r)); rw [h0]; rfl)
  cases h1 : (belB x.b f.r)
  · have := ri_11_1 f x.a x.b x.c i w h0 h1
    exact show_eq this (by rw [e]; show false = ((belB x.a f.r) && (belB x.b f.r) && ((decide (0 ≤ x.c) && decide (x.c ≤ 5)) && belB (wrap64 (x.b + x.c)) f.r)); rw [h0, h1]; rfl)
  cases h2 : (decide (0 ≤ x.c))
  · have := ri_11_2 f x.a x.b x.c i w h0 h1 h2
    exact show_eq this (by rw [e]; show false = ((belB x.a f.r) && (belB x.b f.r) && ((decide (0 ≤ x.c) && decide (x.c ≤ 5)) && belB (wrap64 (x.b + x.c)) f.r)); rw [h0, h1, h2]; rfl)
  cases h3 : (decide (x.c ≤ 5))
  · have := ri_11_3 f x.a x.b x.c i w h0 h1 h2 h3
    exact show_eq this (by rw [e]; show false = ((belB x.a f.r) && (belB x.b f.r) && ((decide (0 ≤ x.c) && decide (x.c ≤ 5)) && belB (wrap64 (x.b + x.c)) f.r)); rw [h0, h1, h2, h3]; rfl)
  have := ri_11_4 f x.a x.b x.c i w h0 h1 h2 h3
  exact show_eq this (by rw [e]; show (belB (wrap64 (x.b + x.c)) f.r) = ((belB x.a f.r) && (belB x.b f.r) && ((decide (0 ≤ x.c) && decide (x.c ≤ 5)) && belB (wrap64 (x.b + x.c)) f.r)); rw [h0, h1, h2, h3]; rfl)
theorem ri_at_12 (f : Fd) (x : Od) (i : Nat) (w : World) (ho : x.op = 12) : RI f x i w (instrB f x i) := by
  have e : instrB f x i = ((belB x.a f.r) && (x.b == 0) && (x.c == 0)) := by simp [instrB, ho, fieldsR]
  have hx : x.v = .agg #[.int .i64 12, .int .i64 x.a, .int .i64 x.b, .int .i64 x.c] := by rw [← ho]
  rw [RI, hx]
  cases h0 : (belB x.a f.r)
  · have := ri_12_0 f x.a x.b x.c i w h0
    exact show_eq this (by rw [e]; show false = ((belB x.a f.r) && (x.b == 0) && (x.c == 0)); rw [h0]; rfl)
  cases h1 : (x.b == 0)
  · have := ri_12_1 f x.a x.b x.c i w h0 h1
    exact show_eq this (by rw [e]; show false = ((belB x.a f.r) && (x.b == 0) && (x.c == 0)); rw [h0, h1]; rfl)
  have := ri_12_2 f x.a x.b x.c i w h0 h1
  exact show_eq this (by rw [e]; show (x.c == 0) = ((belB x.a f.r) && (x.b == 0) && (x.c == 0)); rw [h0, h1]; rfl)
theorem ri_at_13 (f : Fd) (x : Od) (i : Nat) (w : World) (ho : x.op = 13) : RI f x i w (instrB f x i) := by
  have e : instrB f x i = ((belB x.a f.r) && (x.b == 0) && (x.c == 0)) := by simp [instrB, ho, fieldsR]
  have hx : x.v = .agg #[.int .i64 13, .int .i64 x.a, .int .i64 x.b, .int .i64 x.c] := by rw [← ho]
  rw [RI, hx]
  cases h0 : (belB x.a f.r)
  · have := ri_13_0 f x.a x.b x.c i w h0
    exact show_eq this (by rw [e]; show false = ((belB x.a f.r) && (x.b == 0) && (x.c == 0)); rw [h0]; rfl)
  cases h1 : (x.b == 0)
  · have := ri_13_1 f x.a x.b x.c i w h0 h1
    exact show_eq this (by rw [e]; show false = ((belB x.a f.r) && (x.b == 0) && (x.c == 0)); rw [h0, h1]; rfl)
  have := ri_13_2 f x.a x.b x.c i w h0 h1
  exact show_eq this (by rw [e]; show (x.c == 0) = ((belB x.a f.r) && (x.b == 0) && (x.c == 0)); rw [h0, h1]; rfl)
theorem ri_at_21 (f : Fd) (x : Od) (i : Nat) (w : World) (ho : x.op = 21) : RI f x i w (instrB f x i) := by
  have e : instrB f x i = ((belB x.a f.r) && (belB x.b f.r) && (belB x.c f.r)) := by simp [instrB, ho, fieldsR]
  have hx : x.v = .agg #[.int .i64 21, .int .i64 x.a, .int .i64 x.b, .int .i64 x.c] := by rw [← ho]
  rw [RI, hx]
  cases h0 : (belB x.a f.r)
  · have := ri_21_0 f x.a x.b x.c i w h0
    exact show_eq this (by rw [e]; show false = ((belB x.a f.r) && (belB x.b f.r) && (belB x.c f.r)); rw [h0]; rfl)
  cases h1 : (belB x.b f.r)
  · have := ri_21_1 f x.a x.b x.c i w h0 h1
    exact show_eq this (by rw [e]; show false = ((belB x.a f.r) && (belB x.b f.r) && (belB x.c f.r)); rw [h0, h1]; rfl)
  have := ri_21_2 f x.a x.b x.c i w h0 h1
  exact show_eq this (by rw [e]; show (belB x.c f.r) = ((belB x.a f.r) && (belB x.b f.r) && (belB x.c f.r)); rw [h0, h1]; rfl)
theorem ri_at_22 (f : Fd) (x : Od) (i : Nat) (w : World) (ho : x.op = 22) : RI f x i w (instrB f x i) := by
  have e : instrB f x i = ((belB x.a f.r) && (belB x.b f.r) && (belB x.c f.r)) := by simp [instrB, ho, fieldsR]
  have hx : x.v = .agg #[.int .i64 22, .int .i64 x.a, .int .i64 x.b, .int .i64 x.c] := by rw [← ho]
  rw [RI, hx]
  cases h0 : (belB x.a f.r)
  · have := ri_22_0 f x.a x.b x.c i w h0
    exact show_eq this (by rw [e]; show false = ((belB x.a f.r) && (belB x.b f.r) && (belB x.c f.r)); rw [h0]; rfl)
  cases h1 : (belB x.b f.r)
  · have := ri_22_1 f x.a x.b x.c i w h0 h1
    exact show_eq this (by rw [e]; show false = ((belB x.a f.r) && (belB x.b f.r) && (belB x.c f.r)); rw [h0, h1]; rfl)
  have := ri_22_2 f x.a x.b x.c i w h0 h1
  exact show_eq this (by rw [e]; show (belB x.c f.r) = ((belB x.a f.r) && (belB x.b f.r) && (belB x.c f.r)); rw [h0, h1]; rfl)
theorem ri_at_23 (f : Fd) (x : Od) (i : Nat) (w : World) (ho : x.op = 23) : RI f x i w (instrB f x i) := by
  have e : instrB f x i = ((belB x.a f.r) && (belB x.b f.r) && (belB x.c f.r)) := by simp [instrB, ho, fieldsR]
  have hx : x.v = .agg #[.int .i64 23, .int .i64 x.a, .int .i64 x.b, .int .i64 x.c] := by rw [← ho]
  rw [RI, hx]
  cases h0 : (belB x.a f.r)
  · have := ri_23_0 f x.a x.b x.c i w h0
    exact show_eq this (by rw [e]; show false = ((belB x.a f.r) && (belB x.b f.r) && (belB x.c f.r)); rw [h0]; rfl)
  cases h1 : (belB x.b f.r)
  · have := ri_23_1 f x.a x.b x.c i w h0 h1
    exact show_eq this (by rw [e]; show false = ((belB x.a f.r) && (belB x.b f.r) && (belB x.c f.r)); rw [h0, h1]; rfl)
  have := ri_23_2 f x.a x.b x.c i w h0 h1
  exact show_eq this (by rw [e]; show (belB x.c f.r) = ((belB x.a f.r) && (belB x.b f.r) && (belB x.c f.r)); rw [h0, h1]; rfl)
theorem ri_at_24 (f : Fd) (x : Od) (i : Nat) (w : World) (ho : x.op = 24) : RI f x i w (instrB f x i) := by
  have e : instrB f x i = ((belB x.a f.r) && (belB x.b f.r) && (belB x.c f.r)) := by simp [instrB, ho, fieldsR]
  have hx : x.v = .agg #[.int .i64 24, .int .i64 x.a, .int .i64 x.b, .int .i64 x.c] := by rw [← ho]
  rw [RI, hx]
  cases h0 : (belB x.a f.r)
  · have := ri_24_0 f x.a x.b x.c i w h0
    exact show_eq this (by rw [e]; show false = ((belB x.a f.r) && (belB x.b f.r) && (belB x.c f.r)); rw [h0]; rfl)
  cases h1 : (belB x.b f.r)
  · have := ri_24_1 f x.a x.b x.c i w h0 h1
    exact show_eq this (by rw [e]; show false = ((belB x.a f.r) && (belB x.b f.r) && (belB x.c f.r)); rw [h0, h1]; rfl)
  have := ri_24_2 f x.a x.b x.c i w h0 h1
  exact show_eq this (by rw [e]; show (belB x.c f.r) = ((belB x.a f.r) && (belB x.b f.r) && (belB x.c f.r)); rw [h0, h1]; rfl)
theorem ri_at_25 (f : Fd) (x : Od) (i : Nat) (w : World) (ho : x.op = 25) : RI f x i w (instrB f x i) := by
  have e : instrB f x i = ((belB x.a f.r) && (belB x.b f.r) && (belB x.c f.r)) := by simp [instrB, ho, fieldsR]
  have hx : x.v = .agg #[.int .i64 25, .int .i64 x.a, .int .i64 x.b, .int .i64 x.c] := by rw [← ho]
  rw [RI, hx]
  cases h0 : (belB x.a f.r)
  · have := ri_25_0 f x.a x.b x.c i w h0
    exact show_eq this (by rw [e]; show false = ((belB x.a f.r) && (belB x.b f.r) && (belB x.c f.r)); rw [h0]; rfl)
  cases h1 : (belB x.b f.r)
  · have := ri_25_1 f x.a x.b x.c i w h0 h1
    exact show_eq this (by rw [e]; show false = ((belB x.a f.r) && (belB x.b f.r) && (belB x.c f.r)); rw [h0, h1]; rfl)
  have := ri_25_2 f x.a x.b x.c i w h0 h1
  exact show_eq this (by rw [e]; show (belB x.c f.r) = ((belB x.a f.r) && (belB x.b f.r) && (belB x.c f.r)); rw [h0, h1]; rfl)
theorem ri_at_26 (f : Fd) (x : Od) (i : Nat) (w : World) (ho : x.op = 26) : RI f x i w (instrB f x i) := by
  have e : instrB f x i = ((belB x.a f.r) && (belB x.b f.r) && (belB x.c f.r)) := by simp [instrB, ho, fieldsR]
  have hx : x.v = .agg #[.int .i64 26, .int .i64 x.a, .int .i64 x.b, .int .i64 x.c] := by rw [← ho]
  rw [RI, hx]
  cases h0 : (belB x.a f.r)
  · have := ri_26_0 f x.a x.b x.c i w h0
    exact show_eq this (by rw [e]; show false = ((belB x.a f.r) && (belB x.b f.r) && (belB x.c f.r)); rw [h0]; rfl)
  cases h1 : (belB x.b f.r)
  · have := ri_26_1 f x.a x.b x.c i w h0 h1
    exact show_eq this (by rw [e]; show false = ((belB x.a f.r) && (belB x.b f.r) && (belB x.c f.r)); rw [h0, h1]; rfl)
  have := ri_26_2 f x.a x.b x.c i w h0 h1
  exact show_eq this (by rw [e]; show (belB x.c f.r) = ((belB x.a f.r) && (belB x.b f.r) && (belB x.c f.r)); rw [h0, h1]; rfl)
theorem ri_at_27 (f : Fd) (x : Od) (i : Nat) (w : World) (ho : x.op = 27) : RI f x i w (instrB f x i) := by
  have e : instrB f x i = ((belB x.a f.r) && (belB x.b f.r) && (belB x.c f.r)) := by simp [instrB, ho, fieldsR]
  have hx : x.v = .agg #[.int .i64 27, .int .i64 x.a, .int .i64 x.b, .int .i64 x.c] := by rw [← ho]
  rw [RI, hx]
  cases h0 : (belB x.a f.r)
  · have := ri_27_0 f x.a x.b x.c i w h0
    exact show_eq this (by rw [e]; show false = ((belB x.a f.r) && (belB x.b f.r) && (belB x.c f.r)); rw [h0]; rfl)
  cases h1 : (belB x.b f.r)
  · have := ri_27_1 f x.a x.b x.c i w h0 h1
    exact show_eq this (by rw [e]; show false = ((belB x.a f.r) && (belB x.b f.r) && (belB x.c f.r)); rw [h0, h1]; rfl)
  have := ri_27_2 f x.a x.b x.c i w h0 h1
  exact show_eq this (by rw [e]; show (belB x.c f.r) = ((belB x.a f.r) && (belB x.b f.r) && (belB x.c f.r)); rw [h0, h1]; rfl)
theorem ri_at_28 (f : Fd) (x : Od) (i : Nat) (w : World) (ho : x.op = 28) : RI f x i w (instrB f x i) := by
  have e : instrB f x i = ((belB x.a f.r) && (belB x.b f.r) && (belB x.c f.r)) := by simp [instrB, ho, fieldsR]
  have hx : x.v = .agg #[.int .i64 28, .int .i64 x.a, .int .i64 x.b, .int .i64 x.c] := by rw [← ho]
  rw [RI, hx]
  cases h0 : (belB x.a f.r)
  · have := ri_28_0 f x.a x.b x.c i w h0
    exact show_eq this (by rw [e]; show false = ((belB x.a f.r) && (belB x.b f.r) && (belB x.c f.r)); rw [h0]; rfl)
  cases h1 : (belB x.b f.r)
  · have := ri_28_1 f x.a x.b x.c i w h0 h1
    exact show_eq this (by rw [e]; show false = ((belB x.a f.r) && (belB x.b f.r) && (belB x.c f.r)); rw [h0, h1]; rfl)
  have := ri_28_2 f x.a x.b x.c i w h0 h1
  exact show_eq this (by rw [e]; show (belB x.c f.r) = ((belB x.a f.r) && (belB x.b f.r) && (belB x.c f.r)); rw [h0, h1]; rfl)
theorem ri_at_29 (f : Fd) (x : Od) (i : Nat) (w : World) (ho : x.op = 29) : RI f x i w (instrB f x i) := by
  have e : instrB f x i = ((belB x.a f.r) && (belB x.b f.r) && (belB x.c f.r)) := by simp [instrB, ho, fieldsR]
  have hx : x.v = .agg #[.int .i64 29, .int .i64 x.a, .int .i64 x.b, .int .i64 x.c] := by rw [← ho]
  rw [RI, hx]
  cases h0 : (belB x.a f.r)
  · have := ri_29_0 f x.a x.b x.c i w h0
    exact show_eq this (by rw [e]; show false = ((belB x.a f.r) && (belB x.b f.r) && (belB x.c f.r)); rw [h0]; rfl)
  cases h1 : (belB x.b f.r)
  · have := ri_29_1 f x.a x.b x.c i w h0 h1
    exact show_eq this (by rw [e]; show false = ((belB x.a f.r) && (belB x.b f.r) && (belB x.c f.r)); rw [h0, h1]; rfl)
  have := ri_29_2 f x.a x.b x.c i w h0 h1
  exact show_eq this (by rw [e]; show (belB x.c f.r) = ((belB x.a f.r) && (belB x.b f.r) && (belB x.c f.r)); rw [h0, h1]; rfl)
theorem ri_at_30 (f : Fd) (x : Od) (i : Nat) (w : World) (ho : x.op = 30) : RI f x i w (instrB f x i) := by
  have e : instrB f x i = ((belB x.a f.r) && (belB x.b f.r) && (x.c == 0)) := by simp [instrB, ho, fieldsR]
  have hx : x.v = .agg #[.int .i64 30, .int .i64 x.a, .int .i64 x.b, .int .i64 x.c] := by rw [← ho]
  rw [RI, hx]
  cases h0 : (belB x.a f.r)
  · have := ri_30_0 f x.a x.b x.c i w h0
    exact show_eq this (by rw [e]; show false = ((belB x.a f.r) && (belB x.b f.r) && (x.c == 0)); rw [h0]; rfl)
  cases h1 : (belB x.b f.r)
  · have := ri_30_1 f x.a x.b x.c i w h0 h1
    exact show_eq this (by rw [e]; show false = ((belB x.a f.r) && (belB x.b f.r) && (x.c == 0)); rw [h0, h1]; rfl)
  have := ri_30_2 f x.a x.b x.c i w h0 h1
  exact show_eq this (by rw [e]; show (x.c == 0) = ((belB x.a f.r) && (belB x.b f.r) && (x.c == 0)); rw [h0, h1]; rfl)
theorem ri_at_31 (f : Fd) (x : Od) (i : Nat) (w : World) (ho : x.op = 31) : RI f x i w (instrB f x i) := by
  have e : instrB f x i = ((belB x.a f.r) && (belB x.b f.r) && (x.c == 0)) := by simp [instrB, ho, fieldsR]
  have hx : x.v = .agg #[.int .i64 31, .int .i64 x.a, .int .i64 x.b, .int .i64 x.c] := by rw [← ho]
  rw [RI, hx]
  cases h0 : (belB x.a f.r)
  · have := ri_31_0 f x.a x.b x.c i w h0
    exact show_eq this (by rw [e]; show false = ((belB x.a f.r) && (belB x.b f.r) && (x.c == 0)); rw [h0]; rfl)
  cases h1 : (belB x.b f.r)
  · have := ri_31_1 f x.a x.b x.c i w h0 h1
    exact show_eq this (by rw [e]; show false = ((belB x.a f.r) && (belB x.b f.r) && (x.c == 0)); rw [h0, h1]; rfl)
  have := ri_31_2 f x.a x.b x.c i w h0 h1
  exact show_eq this (by rw [e]; show (x.c == 0) = ((belB x.a f.r) && (belB x.b f.r) && (x.c == 0)); rw [h0, h1]; rfl)

/-- The document's instr. -/
theorem ri_any (f : Fd) (x : Od) (i : Nat) (w : World) : RI f x i w (instrB f x i) := by
  by_cases o1 : x.op = 1
  · exact ri_at_1 f x i w o1
  by_cases o2 : x.op = 2
  · exact ri_at_2 f x i w o2
  by_cases o3 : x.op = 3
  · exact ri_at_3 f x i w o3
  by_cases o4 : x.op = 4
  · exact ri_at_4 f x i w o4
  by_cases o5 : x.op = 5
  · exact ri_at_5 f x i w o5
  by_cases o6 : x.op = 6
  · exact ri_at_6 f x i w o6
  by_cases o7 : x.op = 7
  · exact ri_at_7 f x i w o7
  by_cases o8 : x.op = 8
  · exact ri_at_8 f x i w o8
  by_cases o9 : x.op = 9
  · exact ri_at_9 f x i w o9
  by_cases o10 : x.op = 10
  · exact ri_at_10 f x i w o10
  by_cases o11 : x.op = 11
  · exact ri_at_11 f x i w o11
  by_cases o12 : x.op = 12
  · exact ri_at_12 f x i w o12
  by_cases o13 : x.op = 13
  · exact ri_at_13 f x i w o13
  by_cases o21 : x.op = 21
  · exact ri_at_21 f x i w o21
  by_cases o22 : x.op = 22
  · exact ri_at_22 f x i w o22
  by_cases o23 : x.op = 23
  · exact ri_at_23 f x i w o23
  by_cases o24 : x.op = 24
  · exact ri_at_24 f x i w o24
  by_cases o25 : x.op = 25
  · exact ri_at_25 f x i w o25
  by_cases o26 : x.op = 26
  · exact ri_at_26 f x i w o26
  by_cases o27 : x.op = 27
  · exact ri_at_27 f x i w o27
  by_cases o28 : x.op = 28
  · exact ri_at_28 f x i w o28
  by_cases o29 : x.op = 29
  · exact ri_at_29 f x i w o29
  by_cases o30 : x.op = 30
  · exact ri_at_30 f x i w o30
  by_cases o31 : x.op = 31
  · exact ri_at_31 f x i w o31
  have hn : fieldsR x.op = none := by
    unfold fieldsR
    repeat' split
    all_goals first | rfl | omega
  have e : instrB f x i = false := by simp [instrB, hn]
  rw [e]
  have hb := x.wo
  have hb2 : -9223372036854775808 ≤ x.op ∧ x.op ≤ 9223372036854775807 := by simpa [Lit.wf, IntKind.min, IntKind.max, IntKind.signed, IntKind.bits] using hb
  by_cases h20 : 20 < x.op
  · exact ri_far f x.op x.a x.b x.c i w h20 (by rw [wrap64_id (by omega) (by omega)]; omega)
  · have key : ∀ n : Int, x.op ≠ n → (x.op == n) = false := fun n hn => by simpa using hn
    exact ri_none f x.op x.a x.b x.c i w h20 (key 1 o1) (key 2 o2) (key 3 o3) (key 4 o4) (key 5 o5) (key 6 o6) (key 7 o7) (key 8 o8) (key 9 o9) (key 10 o10) (key 11 o11) (key 12 o12) (key 13 o13)
end Go.Proofs.Ytklgjfpgclelbaa
