/- Walks of package lex: its closures, and how far bytes go on. -/
import Derived.Test.YtkcieeckndimpaaDoorProg
import Derived.Test.YtkcieeckndimpaaDoorLM
import Derived.WalkKit
import Derived.WalkSpells
import Derived.WalkLawsBesides
import Derived.Outline
import Derived.FnLit
import Derived.LoopTactic
import Derived.LoopN
import Derived.Below
import Derived.Handy
import Derived.Lib.Hide
namespace Go.Proofs.YtkcieeckndimpaaDoor
open Go.RowKit
open Go

theorem ret_int {k : IntKind} {a b : Int} (h : a = b) : Ending.returned (.int k a) = .returned (.int k b) := by rw [h]
theorem ret_bool {a b : Bool} (h : a = b) : Ending.returned (.bool a) = .returned (.bool b) := by rw [h]
theorem hmf : ∀ (fn : Fn) (first cap : Array Value) (w : World), (Instr.makeFunc fn first cap).run Tryd.prog w = .ok (.func fn first cap) w := fun _ _ _ _ => rfl
theorem ext_alloc {a w : World} (h : Below a.heap.size a w) (o : Obj) : Below a.heap.size a (w.alloc o) := h.alloc h.size o
theorem ext_trans {a b c : World} (h : Below a.heap.size a b) (k : Below b.heap.size b c) : Below a.heap.size a c := h.trans (k.mono h.size)

/-- The spans that a closure asks of, in memory. -/
def Spans (c : Nat) (sp : List (Nat × Nat)) (w : World) : Prop :=
  ∃ v, w.cell? ⟨c, 0, none⟩ = some (.slice (some ⟨v, 0, none⟩) sp.length sp.length) ∧ ∀ i p, sp[i]? = some p → w.cell? ⟨v, i * 2, none⟩ = some (.int .u8 (p.1 : Nat)) ∧ w.cell? ⟨v, i * 2 + 1, none⟩ = some (.int .u8 (p.2 : Nat))
theorem Spans.below {c : Nat} {sp : List (Nat × Nat)} {w w' : World} (h : Spans c sp w) {n : Nat} (hb : Below n w w') (hn : w.heap.size ≤ n) : Spans c sp w' := by
  obtain ⟨v, h1, h2⟩ := h
  have e := World.block_lt_of_cell? _ _ h1
  refine ⟨v, (hb.cell (p := ⟨c, 0, none⟩) (Nat.lt_of_lt_of_le e hn)).trans h1, fun i p hp => ?_⟩
  obtain ⟨h3, h4⟩ := h2 i p hp
  have e3 := World.block_lt_of_cell? _ _ h3
  exact ⟨(hb.cell (p := ⟨v, i * 2, none⟩) (Nat.lt_of_lt_of_le e3 hn)).trans h3, (hb.cell (p := ⟨v, i * 2 + 1, none⟩) (Nat.lt_of_lt_of_le e3 hn)).trans h4⟩
def inSp (sp : List (Nat × Nat)) (x : UInt8) : Bool := sp.any fun p => decide (p.1 ≤ x.toNat) && decide (x.toNat ≤ p.2)

theorem inSp_take (sp : List (Nat × Nat)) (x : UInt8) (k : Nat) (p : Nat × Nat) (hp : sp[k]? = some p) : inSp (sp.take (k + 1)) x = (inSp (sp.take k) x || (decide (p.1 ≤ x.toNat) && decide (x.toNat ≤ p.2))) := by
  simp [inSp, List.take_add_one, hp]
theorem inSp_mem (sp : List (Nat × Nat)) (x : UInt8) (k : Nat) (p : Nat × Nat) (hp : sp[k]? = some p) (h1 : p.1 ≤ x.toNat) (h2 : x.toNat ≤ p.2) : inSp sp x = true := by
  simp only [inSp, List.any_eq_true]
  exact ⟨p, List.mem_of_getElem? hp, by simp [h1, h2]⟩

set_option maxHeartbeats 1000000 in
theorem within1_any (c : Nat) (sp : List (Nat × Nat)) (x : UInt8) (w : World) (hs : Spans c sp w) (hl : sp.length ≤ 4) :
    Calls Tryd.prog 67 #[.int .u8 (x.toNat : Int), .pointer (some ⟨c, 0, none⟩)] w fun e w' => e = .returned (.bool (inSp sp x)) ∧ Below w.heap.size w w' := by
  obtain ⟨v, h1, h2⟩ := id hs
  go_enter Tryd.func67, Tryd.ntmps67
  go_wp2
  go_loopw [8] (fun i wr => ∃ k : Nat, k ≤ sp.length ∧ i = .int .i64 k ∧ Below w.heap.size w wr ∧ inSp (sp.take k) x = false) (fun i _ => sp.length - (intOf i).toNat)
  case atStart => exact ⟨0, Nat.zero_le _, rfl, Below.refl _ _, by simp [inSp]⟩
  case round =>
    obtain ⟨k, hk, rfl, hb, hno⟩ := hrel
    by_cases hlt : k < sp.length
    · obtain ⟨⟨a, b⟩, hp⟩ : ∃ p, sp[k]? = some p := ⟨sp[k], by simp [hlt]⟩
      obtain ⟨g1, g2⟩ := h2 k _ hp
      have l1 := World.block_lt_of_cell? _ _ g1
      have g1' : wr.cell? ⟨v, k * 2, none⟩ = some (.int .u8 (a : Nat)) := (hb.cell (p := ⟨v, k * 2, none⟩) l1).trans g1
      have g2' : wr.cell? ⟨v, k * 2 + 1, none⟩ = some (.int .u8 (b : Nat)) := (hb.cell (p := ⟨v, k * 2 + 1, none⟩) l1).trans g2
      have ht := inSp_take sp x k _ hp
      have hm := inSp_mem sp x k _ hp
      simp only at ht hm
      replace ht : Hid _ := ht
      replace hm : Hid _ := hm
      replace hno : Hid _ := hno
      clear h1 h2 g1 g2
      by_cases c1 : (a : Int) ≤ (x.toNat : Int)
      · by_cases c2 : (x.toNat : Int) ≤ (b : Int)
        · go_wp2
          go_ret
          exact ⟨ret_bool (hm.out (by omega) (by omega)).symm, ext_alloc hb _⟩
        · go_wp2
          go_roundw
          case rel => exact ⟨k + 1, by omega, by go_num, ext_alloc hb _, by rw [ht.out, hno.out]; simp; omega⟩
          case measure => simp [intOf]; omega
      · go_wp2
        go_roundw
        case rel => exact ⟨k + 1, by omega, by go_num, ext_alloc hb _, by rw [ht.out, hno.out]; simp; omega⟩
        case measure => simp [intOf]; omega
    · go_wp2
      go_ret
      rw [List.take_of_length_le (by omega)] at hno
      exact ⟨ret_bool hno.symm, hb⟩

theorem outside1_any (c : Nat) (x : UInt8) (w : World) (h : w.cell? ⟨c, 0, none⟩ = some (.int .u8 10)) :
    Calls Tryd.prog 65 #[.int .u8 (x.toNat : Int), .pointer (some ⟨c, 0, none⟩)] w fun e w' => e = .returned (.bool (noteB x)) ∧ Below w.heap.size w w' := by
  by_cases hx : x.toNat = 10
  · have h10 : (x.toNat : Int) = 10 := by omega
    rw [h10]
    go_enter Tryd.func65, Tryd.ntmps65
    go_wp2
    go_ret
    exact ⟨ret_bool (by simp [noteB, hx]), Below.refl _ _⟩
  · have h10 : ((x.toNat : Int) == 10) = false := by simp; omega
    go_enter Tryd.func65, Tryd.ntmps65
    go_wp2
    go_ret
    exact ⟨ret_bool (by simp [noteB, hx]; omega), Below.refl _ _⟩

/-- What a closure answers, whatever is made besides. -/
def Says (w : World) (k : Nat) (cap : Value) (p : UInt8 → Bool) : Prop :=
  ∀ (x : UInt8) (w1 : World), Below w.heap.size w w1 → Calls Tryd.prog k #[.int .u8 (x.toNat : Int), cap] w1 fun e w' => e = .returned (.bool (p x)) ∧ Below w1.heap.size w1 w'
theorem Says.on {w w1 : World} {k : Nat} {cap : Value} {p : UInt8 → Bool} (h : Says w k cap p) (hb : Below w.heap.size w w1) : Says w1 k cap p :=
  fun x w2 h2 => h x w2 (ext_trans hb h2)

theorem take_run (p : UInt8 → Bool) (l : List UInt8) (k : Nat) (c : UInt8) (hc : l[k]? = some c) (h : ∀ i d, i < k → l[i]? = some d → p d = true) :
    (p c = true → ∀ i d, i < k + 1 → l[i]? = some d → p d = true) ∧ (p c = false → runN p l = k) := by
  refine ⟨fun hp i d hi hd => ?_, fun hp => ?_⟩
  · by_cases e : i = k
    · subst e; rw [hc] at hd; cases hd; exact hp
    · exact h i d (by omega) hd
  · have hk : k < l.length := by
      by_cases hh : k < l.length
      · exact hh
      · rw [List.getElem?_eq_none (by omega)] at hc; cases hc
    exact runN_eq p l k (by omega) h (fun d hd => by rw [hc] at hd; cases hd; exact hp)

set_option maxRecDepth 20000 in
set_option maxHeartbeats 1000000 in
theorem run_65 (s : ByteArray) (hs : s.size ≤ 4000) (cap : Value) (p : UInt8 → Bool) (w : World) (hS : Says w 65 cap p) :
    Calls Tryd.prog 47 #[.string s, .func (.func 65) #[] #[cap]] w fun e w' => e = .returned (.int .i64 (runN p s.data.toList : Nat)) ∧ Below w.heap.size w w' := by
  go_enter Tryd.func47, Tryd.ntmps47
  go_wp2
  go_loopw [5] (fun i wr => ∃ k : Nat, k ≤ s.size ∧ i = .int .i64 k ∧ Below w.heap.size w wr ∧ ∀ i d, i < k → s.data.toList[i]? = some d → p d = true) (fun i _ => s.size - (intOf i).toNat)
  case atStart => exact ⟨0, Nat.zero_le _, rfl, Below.refl _ _, fun i d h => by omega⟩
  case round =>
    obtain ⟨k, hk, rfl, hb, hno⟩ := hrel
    by_cases hlt : k < s.size
    · have hc : s.data.toList[k]? = some s[k] := by
        rw [List.getElem?_eq_getElem (by simpa using hlt)]; rfl
      have hT := take_run p s.data.toList k s[k] hc hno
      have hC := hS s[k] wr hb
      clear hc
      replace hT : Hid _ := hT
      replace hno : Hid _ := hno
      cases hp : p s[k]
      · rw [hp] at hC
        replace hp : Hid _ := hp
        go_wp2_with (go_at_call 65; refine hC.mono ?_; rintro e w' ⟨rfl, hb'⟩)
        go_ret
        exact ⟨ret_int (by rw [hT.out.2 hp.out]), ext_trans hb hb'⟩
      · rw [hp] at hC
        replace hp : Hid _ := hp
        go_wp2_with (go_at_call 65; refine hC.mono ?_; rintro e w' ⟨rfl, hb'⟩)
        go_roundw
        case rel => exact ⟨k + 1, by omega, by go_num, ext_trans hb hb', hT.out.1 hp.out⟩
        case measure => simp [intOf]; omega
    · go_wp2_with fail
      go_ret
      obtain rfl : k = s.size := by omega
      refine ⟨ret_int (by rw [runN_eq p s.data.toList s.size (by simp) (fun i d hi hd => hno i d hi hd) (fun c hc => by rw [List.getElem?_eq_none (by simp)] at hc; cases hc)]), hb⟩

set_option maxRecDepth 20000 in
set_option maxHeartbeats 1000000 in
theorem run_67 (s : ByteArray) (hs : s.size ≤ 4000) (cap : Value) (p : UInt8 → Bool) (w : World) (hS : Says w 67 cap p) :
    Calls Tryd.prog 47 #[.string s, .func (.func 67) #[] #[cap]] w fun e w' => e = .returned (.int .i64 (runN p s.data.toList : Nat)) ∧ Below w.heap.size w w' := by
  go_enter Tryd.func47, Tryd.ntmps47
  go_wp2
  go_loopw [5] (fun i wr => ∃ k : Nat, k ≤ s.size ∧ i = .int .i64 k ∧ Below w.heap.size w wr ∧ ∀ i d, i < k → s.data.toList[i]? = some d → p d = true) (fun i _ => s.size - (intOf i).toNat)
  case atStart => exact ⟨0, Nat.zero_le _, rfl, Below.refl _ _, fun i d h => by omega⟩
  case round =>
    obtain ⟨k, hk, rfl, hb, hno⟩ := hrel
    by_cases hlt : k < s.size
    · have hc : s.data.toList[k]? = some s[k] := by
        rw [List.getElem?_eq_getElem (by simpa using hlt)]; rfl
      have hT := take_run p s.data.toList k s[k] hc hno
      have hC := hS s[k] wr hb
      clear hc
      replace hT : Hid _ := hT
      replace hno : Hid _ := hno
      cases hp : p s[k]
      · rw [hp] at hC
        replace hp : Hid _ := hp
        go_wp2_with (go_at_call 67; refine hC.mono ?_; rintro e w' ⟨rfl, hb'⟩)
        go_ret
        exact ⟨ret_int (by rw [hT.out.2 hp.out]), ext_trans hb hb'⟩
      · rw [hp] at hC
        replace hp : Hid _ := hp
        go_wp2_with (go_at_call 67; refine hC.mono ?_; rintro e w' ⟨rfl, hb'⟩)
        go_roundw
        case rel => exact ⟨k + 1, by omega, by go_num, ext_trans hb hb', hT.out.1 hp.out⟩
        case measure => simp [intOf]; omega
    · go_wp2_with fail
      go_ret
      obtain rfl : k = s.size := by omega
      refine ⟨ret_int (by rw [runN_eq p s.data.toList s.size (by simp) (fun i d hi hd => hno i d hi hd) (fun c hc => by rw [List.getElem?_eq_none (by simp)] at hc; cases hc)]), hb⟩
end Go.Proofs.YtkcieeckndimpaaDoor
