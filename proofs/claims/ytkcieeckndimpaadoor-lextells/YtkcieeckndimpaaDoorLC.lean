/- Walks of package lex: a sign. -/
import Derived.Test.YtkcieeckndimpaaDoorLB
namespace Go.Proofs.YtkcieeckndimpaaDoor
open Go.RowKit
open Go

/-- What a reading of one token answers. -/
abbrev outV (k : Int) (t : ByteArray) (n : Nat) (e : Int) : Value := .tuple #[tokv k t 0, .int .i64 n, .int .i64 e]
def outR : TokR → Value
  | .inl e => outV 0 ⟨#[]⟩ 0 e
  | .inr (k, t, n) => outV k ⟨t.toArray⟩ n 0

theorem ba_list (s : ByteArray) : (⟨s.data.toList.toArray⟩ : ByteArray) = s := by
  obtain ⟨⟨l⟩⟩ := s
  simp

theorem index_neg (l : List UInt8) (c : UInt8) : Lib.indexByte l c < 0 ↔ l.contains c = false := by
  induction l with
  | nil => simp [Lib.indexByte]
  | cons b l ih =>
    have hg := Lib.indexByte_ge l c
    rw [Lib.indexByte, List.contains_cons]
    by_cases h : (b == c) = true
    · have h' : (c == b) = true := by simp at h ⊢; exact h.symm
      simp [h, h']
    · have h' : (c == b) = false := by simp at h ⊢; exact fun e => h e.symm
      have hf : (b == c) = false := by simpa using h
      rw [hf, h', Bool.false_or, ← ih]
      simp only [Bool.false_eq_true, if_false]
      by_cases k : Lib.indexByte l c = -1
      · simp [k]
      · have : (Lib.indexByte l c == -1) = false := by simpa using k
        rw [this]
        simp only [Bool.false_eq_true, if_false]
        omega
theorem index_le (l : List UInt8) (c : UInt8) : Lib.indexByte l c ≤ l.length := by
  induction l with
  | nil => simp [Lib.indexByte]
  | cons b l ih =>
    rw [Lib.indexByte]
    split
    · simp; omega
    · split
      · simp; omega
      · simp; omega

theorem res51 {tm : Array Value} {W : World} {B : Nat} {k : Int} {t : ByteArray} {a : Int} {n e : Int} (h : tm[2]?.getD undef = .pointer (some ⟨B, 0, none⟩)) (h3 : tm[3]?.getD undef = .int .i64 n) (h4 : tm[4]?.getD undef = .int .i64 e) (hx : W.heap[B]? = some (tbx k t a)) : (results Tryd.f51 tm).run Tryd.prog W = .ok (.tuple #[tokv k t a, .int .i64 n, .int .i64 e]) W := by
  obtain ⟨c0, c1, c2, _, _, _⟩ := in3 hx
  simp [results, Tryd.results51, go_sem, h, h3, h4, c0, c1, c2]

/-- What a sign's reading meets. -/
theorem sign_cases (c : UInt8) (r : List UInt8) :
    (Lib.hasPrefix (c :: r) [61, 61] = true ∧ signN (c :: r) = 2 ∧ (c :: r).take 2 = [61, 61]) ∨
    (Lib.hasPrefix (c :: r) [61, 61] = false ∧ Lib.hasPrefix (c :: r) [60, 61] = true ∧ signN (c :: r) = 2 ∧ (c :: r).take 2 = [60, 61]) ∨
    (Lib.hasPrefix (c :: r) [61, 61] = false ∧ Lib.hasPrefix (c :: r) [60, 61] = false ∧ Lib.hasPrefix (c :: r) [46, 46] = true ∧ signN (c :: r) = 2 ∧ (c :: r).take 2 = [46, 46]) ∨
    (Lib.hasPrefix (c :: r) [61, 61] = false ∧ Lib.hasPrefix (c :: r) [60, 61] = false ∧ Lib.hasPrefix (c :: r) [46, 46] = false ∧
      ((Lib.indexByte signs1 c < 0 ∧ signN (c :: r) = 0) ∨ (0 ≤ Lib.indexByte signs1 c ∧ signN (c :: r) = 1))) := by
  rw [pre2, pre2, pre2]
  by_cases h1 : (c :: r).take 2 = [61, 61]
  · left
    exact ⟨decide_eq_true h1, by simp only [signN, sign2, h1, decide_true, Bool.true_or, if_true], h1⟩
  by_cases h2 : (c :: r).take 2 = [60, 61]
  · right; left
    exact ⟨decide_eq_false h1, decide_eq_true h2, by simp only [signN, sign2, h2, decide_true, Bool.true_or, Bool.or_true, if_true], h2⟩
  by_cases h3 : (c :: r).take 2 = [46, 46]
  · right; right; left
    exact ⟨decide_eq_false h1, decide_eq_false h2, decide_eq_true h3, by simp only [signN, sign2, h3, decide_true, Bool.or_true, if_true], h3⟩
  right; right; right
  refine ⟨decide_eq_false h1, decide_eq_false h2, decide_eq_false h3, ?_⟩
  have hs : sign2 (c :: r) = false := by
    unfold sign2
    rw [decide_eq_false h1, decide_eq_false h2, decide_eq_false h3]
    rfl
  have hn := index_neg signs1 c
  simp only [signN, hs]
  cases hc : signs1.contains c
  · left
    exact ⟨hn.2 hc, by simp⟩
  · right
    refine ⟨?_, by simp⟩
    by_cases k : Lib.indexByte signs1 c < 0
    · rw [hn.1 k] at hc; cases hc
    · omega

def signsB : ByteArray := ⟨#[40, 41, 123, 125, 91, 93, 44, 59, 61, 60, 43, 45, 42, 47, 37, 35]⟩
theorem index_call (x : UInt8) (u : World) : Calls Tryd.prog 70 #[.string ⟨#[40, 41, 123, 125, 91, 93, 44, 59, 61, 60, 43, 45, 42, 47, 37, 35]⟩, .int .u8 (x.toNat : Int)] u fun e w' => e = .returned (.int .i64 (Lib.indexByte signs1 x)) ∧ w' = u := by
  have h := Tryd.strings_IndexByte ⟨#[40, 41, 123, 125, 91, 93, 44, 59, 61, 60, 43, 45, 42, 47, 37, 35]⟩ (x.toNat : Int) u
  have e : ((x.toNat : Int)).toNat.toUInt8 = x := by
    rw [Int.toNat_natCast]; exact UInt8.ofNat_toNat
  rw [e] at h
  exact h

theorem list_cons (s : ByteArray) (h : 0 < s.size) : ∃ c r, s.data.toList = c :: r ∧ s[0] = c ∧ ∀ k, s.data.toList.take (k + 1) = c :: r.take k := by
  obtain ⟨⟨l⟩⟩ := s
  cases l with
  | nil => simp [ByteArray.size] at h
  | cons c r => exact ⟨c, r, rfl, rfl, fun k => rfl⟩

def signV (l : List UInt8) : Value := if signN l = 0 then outV 0 ⟨#[]⟩ 0 2 else outV 4 ⟨(l.take (signN l)).toArray⟩ (signN l) 0
theorem signV_some {l t : List UInt8} {n : Nat} (h : signN l = n + 1) (ht : l.take (n + 1) = t) : signV l = outV 4 ⟨t.toArray⟩ (n + 1) 0 := by
  unfold signV
  rw [h, ht]
  rfl
theorem signV_none {l : List UInt8} (h : signN l = 0) : signV l = outV 0 ⟨#[]⟩ 0 2 := by
  unfold signV
  rw [h]
  rfl

abbrev longer : Value := .agg #[.string ⟨#[61, 61]⟩, .string ⟨#[60, 61]⟩, .string ⟨#[46, 46]⟩]
theorem idx0 (w : World) : (Instr.index 91 longer (.int .i64 0)).run Tryd.prog w = .ok (.string ⟨#[61, 61]⟩) w := by
  simp [Instr.index, run_underlying Tryd.underlying91, asIntOf, go_sem]
theorem idx1 (w : World) : (Instr.index 91 longer (.int .i64 1)).run Tryd.prog w = .ok (.string ⟨#[60, 61]⟩) w := by
  simp [Instr.index, run_underlying Tryd.underlying91, asIntOf, go_sem]
theorem idx2 (w : World) : (Instr.index 91 longer (.int .i64 2)).run Tryd.prog w = .ok (.string ⟨#[46, 46]⟩) w := by
  simp [Instr.index, run_underlying Tryd.underlying91, asIntOf, go_sem]

set_option maxRecDepth 20000 in
set_option maxHeartbeats 2000000 in
theorem sign_any (s : ByteArray) (hs : s.size ≤ 4000) (h0 : 0 < s.size) (w : World) :
    Calls Tryd.prog 51 #[.string s] w fun e w' => e = .returned (signV s.data.toList) ∧ Below w.heap.size w w' := by
  obtain ⟨c, r, hl, hc, htk⟩ := list_cons s h0
  have ht1 : Hid (s.data.toList.take 1 = [c]) := htk 0
  clear htk
  have hC := sign_cases c r
  rw [← hl] at hC
  have hlo : Hid _ := hl
  clear hl
  have i0 := idx0
  have i1 := idx1
  have i2 := idx2
  have hr := alloc_new w zeroTok
  have hb0 : Below w.heap.size w (w.alloc zeroTok) := (Below.refl _ _).alloc (Nat.le_refl _) _
  have hr1 := block_alloc (.cells #[.string ⟨#[61, 61]⟩, .string ⟨#[60, 61]⟩, .string ⟨#[46, 46]⟩] 91) hr
  have hb1 := ext_alloc hb0 (.cells #[.string ⟨#[61, 61]⟩, .string ⟨#[60, 61]⟩, .string ⟨#[46, 46]⟩] 91)
  rcases hC with ⟨e1, e2, e3⟩ | ⟨e1, e2, e3, e4⟩ | ⟨e1, e2, e3, e4, e5⟩ | ⟨e1, e2, e3, e4⟩
  · have hM := fun u => made_any 4 ⟨#[61, 61]⟩ (by decide) u
    have e2' : Hid _ := e2
    have e3' : Hid _ := e3
    clear e2 e3
    go_enter Tryd.func51, Tryd.ntmps51
    go_wp2
    refine wp_loop_rounds 4 ?_
    rw [rounds_succ]
    go_wp2_with (first | (go_at_call 46; refine (Tryd.strings_HasPrefix _ _ _).mono ?_; rintro e w' ⟨rfl, rfl⟩) | (go_at_call 68; refine (hM _).mono ?_; rintro e w2 ⟨rfl, hb2⟩; have hr2 := block_below hb2 hr1; obtain ⟨c0, c1, c2, f0, f1, f2⟩ := in3 hr2))
    refine bodyPost_ret (res51 rfl rfl rfl (put3_same 4 _ 0 hr2)) rfl ⟨?_, put3_below _ _ _ (ext_trans hb1 hb2) (Nat.le_refl _)⟩
    exact congrArg _ (signV_some e2'.out e3'.out).symm
  · have hM := fun u => made_any 4 ⟨#[60, 61]⟩ (by decide) u
    have e3' : Hid _ := e3
    have e4' : Hid _ := e4
    clear e3 e4
    go_enter Tryd.func51, Tryd.ntmps51
    go_wp2
    refine wp_loop_rounds 4 ?_
    rw [rounds_succ]
    go_wp2_with (go_at_call 46; refine (Tryd.strings_HasPrefix _ _ _).mono ?_; rintro e w' ⟨rfl, rfl⟩)
    rw [rounds_succ]
    go_wp2_with (first | (go_at_call 46; refine (Tryd.strings_HasPrefix _ _ _).mono ?_; rintro e w' ⟨rfl, rfl⟩) | (go_at_call 68; refine (hM _).mono ?_; rintro e w2 ⟨rfl, hb2⟩; have hr2 := block_below hb2 hr1; obtain ⟨c0, c1, c2, f0, f1, f2⟩ := in3 hr2))
    refine bodyPost_ret (res51 rfl rfl rfl (put3_same 4 _ 0 hr2)) rfl ⟨?_, put3_below _ _ _ (ext_trans hb1 hb2) (Nat.le_refl _)⟩
    exact congrArg _ (signV_some e3'.out e4'.out).symm
  · have hM := fun u => made_any 4 ⟨#[46, 46]⟩ (by decide) u
    have e4' : Hid _ := e4
    have e5' : Hid _ := e5
    clear e4 e5
    go_enter Tryd.func51, Tryd.ntmps51
    go_wp2
    refine wp_loop_rounds 4 ?_
    rw [rounds_succ]
    go_wp2_with (go_at_call 46; refine (Tryd.strings_HasPrefix _ _ _).mono ?_; rintro e w' ⟨rfl, rfl⟩)
    rw [rounds_succ]
    go_wp2_with (go_at_call 46; refine (Tryd.strings_HasPrefix _ _ _).mono ?_; rintro e w' ⟨rfl, rfl⟩)
    rw [rounds_succ]
    go_wp2_with (first | (go_at_call 46; refine (Tryd.strings_HasPrefix _ _ _).mono ?_; rintro e w' ⟨rfl, rfl⟩) | (go_at_call 68; refine (hM _).mono ?_; rintro e w2 ⟨rfl, hb2⟩; have hr2 := block_below hb2 hr1; obtain ⟨c0, c1, c2, f0, f1, f2⟩ := in3 hr2))
    refine bodyPost_ret (res51 rfl rfl rfl (put3_same 4 _ 0 hr2)) rfl ⟨?_, put3_below _ _ _ (ext_trans hb1 hb2) (Nat.le_refl _)⟩
    exact congrArg _ (signV_some e4'.out e5'.out).symm
  · have hI := fun u => index_call s[0] u
    rw [hc] at hI
    have hj1 := index_le signs1 c
    obtain ⟨j, hj⟩ : ∃ j, Lib.indexByte signs1 c = j := ⟨_, rfl⟩
    rw [hj] at hI e4 hj1
    have hj2 : j ≤ 16 := hj1
    clear hj hj1
    have hM := fun u => made_any 4 (s.extract 0 1) (by simp; omega) u
    have hs0 : (s[0].toNat : Int) = (c.toNat : Int) := by rw [hc]
    rcases e4 with ⟨k1, k2⟩ | ⟨k1, k2⟩
    · have k2' : Hid _ := k2
      clear k2
      go_enter Tryd.func51, Tryd.ntmps51
      go_wp2
      refine wp_loop_rounds 4 ?_
      rw [rounds_succ]
      go_wp2_with (go_at_call 46; refine (Tryd.strings_HasPrefix _ _ _).mono ?_; rintro e w' ⟨rfl, rfl⟩)
      rw [rounds_succ]
      go_wp2_with (go_at_call 46; refine (Tryd.strings_HasPrefix _ _ _).mono ?_; rintro e w' ⟨rfl, rfl⟩)
      rw [rounds_succ]
      go_wp2_with (go_at_call 46; refine (Tryd.strings_HasPrefix _ _ _).mono ?_; rintro e w' ⟨rfl, rfl⟩)
      rw [rounds_succ]
      go_wp2_with (go_at_call 70; refine (hI _).mono ?_; rintro e w' ⟨rfl, rfl⟩)
      exact bodyPost_ret (res51 rfl rfl rfl hr1) rfl ⟨congrArg _ (signV_none k2'.out).symm, hb1⟩
    · have k2' : Hid _ := k2
      clear k2
      go_enter Tryd.func51, Tryd.ntmps51
      go_wp2
      refine wp_loop_rounds 4 ?_
      rw [rounds_succ]
      go_wp2_with (go_at_call 46; refine (Tryd.strings_HasPrefix _ _ _).mono ?_; rintro e w' ⟨rfl, rfl⟩)
      rw [rounds_succ]
      go_wp2_with (go_at_call 46; refine (Tryd.strings_HasPrefix _ _ _).mono ?_; rintro e w' ⟨rfl, rfl⟩)
      rw [rounds_succ]
      go_wp2_with (go_at_call 46; refine (Tryd.strings_HasPrefix _ _ _).mono ?_; rintro e w' ⟨rfl, rfl⟩)
      rw [rounds_succ]
      go_wp2_with (first | (go_at_call 70; refine (hI _).mono ?_; rintro e w' ⟨rfl, rfl⟩) | (go_at_call 68; refine (hM _).mono ?_; rintro e w2 ⟨rfl, hb2⟩; have hr2 := block_below hb2 hr1; obtain ⟨c0, c1, c2, f0, f1, f2⟩ := in3 hr2))
      refine bodyPost_ret (res51 rfl rfl rfl (put3_same 4 _ 0 hr2)) rfl ⟨?_, put3_below _ _ _ (ext_trans hb1 hb2) (Nat.le_refl _)⟩
      rw [signV_some k2'.out rfl, ← take_list, ba_list]
      rfl
end Go.Proofs.YtkcieeckndimpaaDoor
