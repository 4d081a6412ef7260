/- Walks of package lex: a sign. Walks of package lex: a text between quotes. Walks of package lex: a word or a number. Walks of package lex: the token that a text begins with. Lists of tokens in memory; package lex's Scan. -/
import Derived.Test.YtnnppenlfocgiaaGreatDoorK07
import Derived.OwnWalk
namespace Go.Proofs.YtnnppenlfocgiaaGreatDoor
open Go.RowKit
open Go

/-- What a reading of one token answers. -/
abbrev outV (k : Int) (t : ByteArray) (n : Nat) (e : Int) : Value := .tuple #[tokv k t 0, .int .i64 n, .int .i64 e]
def outR : TokR → Value
  | .inl e => outV 0 ⟨#[]⟩ 0 e
  | .inr (k, t, n) => outV k ⟨t.toArray⟩ n 0

theorem ba_list (s : ByteArray) : (⟨s.data.toList.toArray⟩ : ByteArray) = s := by
  obtain ⟨⟨l⟩⟩ := s
  simp

theorem index_neg (l : List UInt8) (c : UInt8) : Lib.indexByte l c < 0 ↔ l.contains c = false := by
  induction l with
  | nil => simp [Lib.indexByte]
  | cons b l ih =>
    have hg := Lib.indexByte_ge l c
    rw [Lib.indexByte, List.contains_cons]
    by_cases h : (b == c) = true
    · have h' : (c == b) = true := by simp at h ⊢; exact h.symm
      simp [h, h']
    · have h' : (c == b) = false := by simp at h ⊢; exact fun e => h e.symm
      have hf : (b == c) = false := by simpa using h
      rw [hf, h', Bool.false_or, ← ih]
      simp only [Bool.false_eq_true, if_false]
      by_cases k : Lib.indexByte l c = -1
      · simp [k]
      · have : (Lib.indexByte l c == -1) = false := by simpa using k
        rw [this]
        simp only [Bool.false_eq_true, if_false]
        omega
theorem index_le (l : List UInt8) (c : UInt8) : Lib.indexByte l c ≤ l.length := by
  induction l with
  | nil => simp [Lib.indexByte]
  | cons b l ih =>
    rw [Lib.indexByte]
    split
    · simp; omega
    · split
      · simp; omega
      · simp; omega

theorem res51 {tm : Array Value} {W : World} {B : Nat} {k : Int} {t : ByteArray} {a : Int} {n e : Int} (h : tm[2]?.getD undef = .pointer (some ⟨B, 0, none⟩)) (h3 : tm[3]?.getD undef = .int .i64 n) (h4 : tm[4]?.getD undef = .int .i64 e) (hx : W.heap[B]? = some (tbx k t a)) : (results Tryz.f61 tm).run Tryz.prog W = .ok (.tuple #[tokv k t a, .int .i64 n, .int .i64 e]) W := by
  obtain ⟨c0, c1, c2, _, _, _⟩ := in3 hx
  simp [results, Tryz.results61, go_sem, h, h3, h4, c0, c1, c2]

/-- What a sign's reading meets. -/
theorem sign_cases (c : UInt8) (r : List UInt8) :
    (Lib.hasPrefix (c :: r) [61, 61] = true ∧ signN (c :: r) = 2 ∧ (c :: r).take 2 = [61, 61]) ∨
    (Lib.hasPrefix (c :: r) [61, 61] = false ∧ Lib.hasPrefix (c :: r) [60, 61] = true ∧ signN (c :: r) = 2 ∧ (c :: r).take 2 = [60, 61]) ∨
    (Lib.hasPrefix (c :: r) [61, 61] = false ∧ Lib.hasPrefix (c :: r) [60, 61] = false ∧ Lib.hasPrefix (c :: r) [46, 46] = true ∧ signN (c :: r) = 2 ∧ (c :: r).take 2 = [46, 46]) ∨
    (Lib.hasPrefix (c :: r) [61, 61] = false ∧ Lib.hasPrefix (c :: r) [60, 61] = false ∧ Lib.hasPrefix (c :: r) [46, 46] = false ∧
      ((Lib.indexByte signs1 c < 0 ∧ signN (c :: r) = 0) ∨ (0 ≤ Lib.indexByte signs1 c ∧ signN (c :: r) = 1))) := by
  rw [pre2, pre2, pre2]
  by_cases h1 : (c :: r).take 2 = [61, 61]
  · left
    exact ⟨decide_eq_true h1, by simp only [signN, sign2, h1, decide_true, Bool.true_or, if_true], h1⟩
  by_cases h2 : (c :: r).take 2 = [60, 61]
  · right; left
    exact ⟨decide_eq_false h1, decide_eq_true h2, by simp only [signN, sign2, h2, decide_true, Bool.true_or, Bool.or_true, if_true], h2⟩
  by_cases h3 : (c :: r).take 2 = [46, 46]
  · right; right; left
    exact ⟨decide_eq_false h1, decide_eq_false h2, decide_eq_true h3, by simp only [signN, sign2, h3, decide_true, Bool.or_true, if_true], h3⟩
  right; right; right
  refine ⟨decide_eq_false h1, decide_eq_false h2, decide_eq_false h3, ?_⟩
  have hs : sign2 (c :: r) = false := by
    unfold sign2
    rw [decide_eq_false h1, decide_eq_false h2, decide_eq_false h3]
    rfl
  have hn := index_neg signs1 c
  simp only [signN, hs]
  cases hc : signs1.contains c
  · left
    exact ⟨hn.2 hc, by simp⟩
  · right
    refine ⟨?_, by simp⟩
    by_cases k : Lib.indexByte signs1 c < 0
    · rw [hn.1 k] at hc; cases hc
    · omega

theorem index_call (x : UInt8) (u : World) : Calls Tryz.prog 79 #[.string ⟨#[40, 41, 123, 125, 91, 93, 44, 59, 61, 60, 43, 45, 42, 47, 37, 35]⟩, .int .u8 (x.toNat : Int)] u fun e w' => e = .returned (.int .i64 (Lib.indexByte signs1 x)) ∧ w' = u := by
  have h := Tryz.strings_IndexByte ⟨#[40, 41, 123, 125, 91, 93, 44, 59, 61, 60, 43, 45, 42, 47, 37, 35]⟩ (x.toNat : Int) u
  have e : ((x.toNat : Int)).toNat.toUInt8 = x := by
    rw [Int.toNat_natCast]; exact UInt8.ofNat_toNat
  rw [e] at h
  exact h

theorem list_cons (s : ByteArray) (h : 0 < s.size) : ∃ c r, s.data.toList = c :: r ∧ s[0] = c ∧ ∀ k, s.data.toList.take (k + 1) = c :: r.take k := by
  obtain ⟨⟨l⟩⟩ := s
  cases l with
  | nil => simp [ByteArray.size] at h
  | cons c r => exact ⟨c, r, rfl, rfl, fun k => rfl⟩

def signV (l : List UInt8) : Value := if signN l = 0 then outV 0 ⟨#[]⟩ 0 2 else outV 4 ⟨(l.take (signN l)).toArray⟩ (signN l) 0
theorem signV_some {l t : List UInt8} {n : Nat} (h : signN l = n + 1) (ht : l.take (n + 1) = t) : signV l = outV 4 ⟨t.toArray⟩ (n + 1) 0 := by
  unfold signV
  rw [h, ht]
  rfl
theorem signV_none {l : List UInt8} (h : signN l = 0) : signV l = outV 0 ⟨#[]⟩ 0 2 := by
  unfold signV
  rw [h]
  rfl

abbrev longer : Value := .agg #[.string ⟨#[61, 61]⟩, .string ⟨#[60, 61]⟩, .string ⟨#[46, 46]⟩]
theorem idx0 (w : World) : (Instr.index 118 longer (.int .i64 0)).run Tryz.prog w = .ok (.string ⟨#[61, 61]⟩) w := by
  simp [Instr.index, run_underlying Tryz.underlying118, asIntOf, go_sem]
theorem idx1 (w : World) : (Instr.index 118 longer (.int .i64 1)).run Tryz.prog w = .ok (.string ⟨#[60, 61]⟩) w := by
  simp [Instr.index, run_underlying Tryz.underlying118, asIntOf, go_sem]
theorem idx2 (w : World) : (Instr.index 118 longer (.int .i64 2)).run Tryz.prog w = .ok (.string ⟨#[46, 46]⟩) w := by
  simp [Instr.index, run_underlying Tryz.underlying118, asIntOf, go_sem]

set_option maxRecDepth 20000 in
set_option maxHeartbeats 2000000 in
theorem sign_any (s : ByteArray) (hs : s.size ≤ 4000) (h0 : 0 < s.size) (w : World) :
    Calls Tryz.prog 61 #[.string s] w fun e w' => e = .returned (signV s.data.toList) ∧ Below w.heap.size w w' := by
  obtain ⟨c, r, hl, hc, htk⟩ := list_cons s h0
  have ht1 : Hid (s.data.toList.take 1 = [c]) := htk 0
  clear htk
  have hC := sign_cases c r
  rw [← hl] at hC
  have hlo : Hid _ := hl
  clear hl
  have i0 := idx0
  have i1 := idx1
  have i2 := idx2
  have hr := alloc_new w zeroTok
  have hb0 : Below w.heap.size w (w.alloc zeroTok) := (Below.refl _ _).alloc (Nat.le_refl _) _
  have hr1 := block_alloc (.cells #[.string ⟨#[61, 61]⟩, .string ⟨#[60, 61]⟩, .string ⟨#[46, 46]⟩] 118) hr
  have hb1 := ext_alloc hb0 (.cells #[.string ⟨#[61, 61]⟩, .string ⟨#[60, 61]⟩, .string ⟨#[46, 46]⟩] 118)
  rcases hC with ⟨e1, e2, e3⟩ | ⟨e1, e2, e3, e4⟩ | ⟨e1, e2, e3, e4, e5⟩ | ⟨e1, e2, e3, e4⟩
  · have hM := fun u => made_any 4 ⟨#[61, 61]⟩ (by decide) u
    have e2' : Hid _ := e2
    have e3' : Hid _ := e3
    clear e2 e3
    go_enter Tryz.func61, Tryz.ntmps61
    go_wp2
    refine wp_loop_rounds 4 ?_
    rw [rounds_succ]
    go_wp2_with (first | (go_at_call 56; refine (Tryz.strings_HasPrefix _ _ _).mono ?_; rintro e w' ⟨rfl, rfl⟩) | (go_at_call 77; refine (hM _).mono ?_; rintro e w2 ⟨rfl, hb2⟩; have hr2 := block_below hb2 hr1; obtain ⟨c0, c1, c2, f0, f1, f2⟩ := in3 hr2))
    refine bodyPost_ret (res51 rfl rfl rfl (put3_same 4 _ 0 hr2)) rfl ⟨?_, put3_below _ _ _ (ext_trans hb1 hb2) (Nat.le_refl _)⟩
    exact congrArg _ (signV_some e2'.out e3'.out).symm
  · have hM := fun u => made_any 4 ⟨#[60, 61]⟩ (by decide) u
    have e3' : Hid _ := e3
    have e4' : Hid _ := e4
    clear e3 e4
    go_enter Tryz.func61, Tryz.ntmps61
    go_wp2
    refine wp_loop_rounds 4 ?_
    rw [rounds_succ]
    go_wp2_with (go_at_call 56; refine (Tryz.strings_HasPrefix _ _ _).mono ?_; rintro e w' ⟨rfl, rfl⟩)
    rw [rounds_succ]
    go_wp2_with (first | (go_at_call 56; refine (Tryz.strings_HasPrefix _ _ _).mono ?_; rintro e w' ⟨rfl, rfl⟩) | (go_at_call 77; refine (hM _).mono ?_; rintro e w2 ⟨rfl, hb2⟩; have hr2 := block_below hb2 hr1; obtain ⟨c0, c1, c2, f0, f1, f2⟩ := in3 hr2))
    refine bodyPost_ret (res51 rfl rfl rfl (put3_same 4 _ 0 hr2)) rfl ⟨?_, put3_below _ _ _ (ext_trans hb1 hb2) (Nat.le_refl _)⟩
    exact congrArg _ (signV_some e3'.out e4'.out).symm
  · have hM := fun u => made_any 4 ⟨#[46, 46]⟩ (by decide) u
    have e4' : Hid _ := e4
    have e5' : Hid _ := e5
    clear e4 e5
    go_enter Tryz.func61, Tryz.ntmps61
    go_wp2
    refine wp_loop_rounds 4 ?_
    rw [rounds_succ]
    go_wp2_with (go_at_call 56; refine (Tryz.strings_HasPrefix _ _ _).mono ?_; rintro e w' ⟨rfl, rfl⟩)
    rw [rounds_succ]
    go_wp2_with (go_at_call 56; refine (Tryz.strings_HasPrefix _ _ _).mono ?_; rintro e w' ⟨rfl, rfl⟩)
    rw [rounds_succ]
    go_wp2_with (first | (go_at_call 56; refine (Tryz.strings_HasPrefix _ _ _).mono ?_; rintro e w' ⟨rfl, rfl⟩) | (go_at_call 77; refine (hM _).mono ?_; rintro e w2 ⟨rfl, hb2⟩; have hr2 := block_below hb2 hr1; obtain ⟨c0, c1, c2, f0, f1, f2⟩ := in3 hr2))
    refine bodyPost_ret (res51 rfl rfl rfl (put3_same 4 _ 0 hr2)) rfl ⟨?_, put3_below _ _ _ (ext_trans hb1 hb2) (Nat.le_refl _)⟩
    exact congrArg _ (signV_some e4'.out e5'.out).symm
  · have hI := fun u => index_call s[0] u
    rw [hc] at hI
    have hj1 := index_le signs1 c
    obtain ⟨j, hj⟩ : ∃ j, Lib.indexByte signs1 c = j := ⟨_, rfl⟩
    rw [hj] at hI e4 hj1
    have hj2 : j ≤ 16 := hj1
    clear hj hj1
    have hM := fun u => made_any 4 (s.extract 0 1) (by simp; omega) u
    have hs0 : (s[0].toNat : Int) = (c.toNat : Int) := by rw [hc]
    rcases e4 with ⟨k1, k2⟩ | ⟨k1, k2⟩
    · have k2' : Hid _ := k2
      clear k2
      go_enter Tryz.func61, Tryz.ntmps61
      go_wp2
      refine wp_loop_rounds 4 ?_
      rw [rounds_succ]
      go_wp2_with (go_at_call 56; refine (Tryz.strings_HasPrefix _ _ _).mono ?_; rintro e w' ⟨rfl, rfl⟩)
      rw [rounds_succ]
      go_wp2_with (go_at_call 56; refine (Tryz.strings_HasPrefix _ _ _).mono ?_; rintro e w' ⟨rfl, rfl⟩)
      rw [rounds_succ]
      go_wp2_with (go_at_call 56; refine (Tryz.strings_HasPrefix _ _ _).mono ?_; rintro e w' ⟨rfl, rfl⟩)
      rw [rounds_succ]
      go_wp2_with (go_at_call 79; refine (hI _).mono ?_; rintro e w' ⟨rfl, rfl⟩)
      exact bodyPost_ret (res51 rfl rfl rfl hr1) rfl ⟨congrArg _ (signV_none k2'.out).symm, hb1⟩
    · have k2' : Hid _ := k2
      clear k2
      go_enter Tryz.func61, Tryz.ntmps61
      go_wp2
      refine wp_loop_rounds 4 ?_
      rw [rounds_succ]
      go_wp2_with (go_at_call 56; refine (Tryz.strings_HasPrefix _ _ _).mono ?_; rintro e w' ⟨rfl, rfl⟩)
      rw [rounds_succ]
      go_wp2_with (go_at_call 56; refine (Tryz.strings_HasPrefix _ _ _).mono ?_; rintro e w' ⟨rfl, rfl⟩)
      rw [rounds_succ]
      go_wp2_with (go_at_call 56; refine (Tryz.strings_HasPrefix _ _ _).mono ?_; rintro e w' ⟨rfl, rfl⟩)
      rw [rounds_succ]
      go_wp2_with (first | (go_at_call 79; refine (hI _).mono ?_; rintro e w' ⟨rfl, rfl⟩) | (go_at_call 77; refine (hM _).mono ?_; rintro e w2 ⟨rfl, hb2⟩; have hr2 := block_below hb2 hr1; obtain ⟨c0, c1, c2, f0, f1, f2⟩ := in3 hr2))
      refine bodyPost_ret (res51 rfl rfl rfl (put3_same 4 _ 0 hr2)) rfl ⟨?_, put3_below _ _ _ (ext_trans hb1 hb2) (Nat.le_refl _)⟩
      rw [signV_some k2'.out rfl, ← take_list, ba_list]
      rfl
end Go.Proofs.YtnnppenlfocgiaaGreatDoor
namespace Go.Proofs.YtnnppenlfocgiaaGreatDoor
open Go.RowKit
open Go

theorem res50 {tm : Array Value} {W : World} {B : Nat} {k : Int} {t : ByteArray} {a : Int} {n e : Int} (h : tm[2]?.getD undef = .pointer (some ⟨B, 0, none⟩)) (h3 : tm[3]?.getD undef = .int .i64 n) (h4 : tm[4]?.getD undef = .int .i64 e) (hx : W.heap[B]? = some (tbx k t a)) : (results Tryz.f60 tm).run Tryz.prog W = .ok (.tuple #[tokv k t a, .int .i64 n, .int .i64 e]) W := by
  obtain ⟨c0, c1, c2, _, _, _⟩ := in3 hx
  simp [results, Tryz.results60, go_sem, h, h3, h4, c0, c1, c2]
theorem res49 {tm : Array Value} {W : World} {B : Nat} {k : Int} {t : ByteArray} {a : Int} {n e : Int} (h : tm[2]?.getD undef = .pointer (some ⟨B, 0, none⟩)) (h3 : tm[3]?.getD undef = .int .i64 n) (h4 : tm[4]?.getD undef = .int .i64 e) (hx : W.heap[B]? = some (tbx k t a)) : (results Tryz.f59 tm).run Tryz.prog W = .ok (.tuple #[tokv k t a, .int .i64 n, .int .i64 e]) W := by
  obtain ⟨c0, c1, c2, _, _, _⟩ := in3 hx
  simp [results, Tryz.results59, go_sem, h, h3, h4, c0, c1, c2]
theorem res36 {tm : Array Value} {W : World} {B : Nat} {k : Int} {t : ByteArray} {a : Int} {n e : Int} (h : tm[2]?.getD undef = .pointer (some ⟨B, 0, none⟩)) (h3 : tm[3]?.getD undef = .int .i64 n) (h4 : tm[4]?.getD undef = .int .i64 e) (hx : W.heap[B]? = some (tbx k t a)) : (results Tryz.f37 tm).run Tryz.prog W = .ok (.tuple #[tokv k t a, .int .i64 n, .int .i64 e]) W := by
  obtain ⟨c0, c1, c2, _, _, _⟩ := in3 hx
  simp [results, Tryz.results37, go_sem, h, h3, h4, c0, c1, c2]

theorem inSp_txt : inSp [(32, 33), (35, 126)] = txtB := by
  funext x
  simp only [inSp, txtB, List.any_cons, List.any_nil, Bool.or_false]
  rw [Bool.eq_iff_iff]
  simp
  omega
theorem inSp_row : inSp [(97, 122), (65, 90), (48, 57), (95, 95)] = rowB := by
  funext x
  simp only [inSp, rowB, letB, digB, List.any_cons, List.any_nil, Bool.or_false]
  rw [Bool.eq_iff_iff]
  simp
  omega
theorem inSp_dig : inSp [(48, 57)] = digB := by
  funext x
  simp only [inSp, digB, List.any_cons, List.any_nil, Bool.or_false]

theorem says_of {c : Nat} {sp : List (Nat × Nat)} {w : World} (h : Spans c sp w) (hl : sp.length ≤ 4) {p : UInt8 → Bool} (hp : inSp sp = p) : Says w 76 (.pointer (some ⟨c, 0, none⟩)) p := by
  subst hp
  exact fun x w1 h1 => within1_any c sp x w1 (h.below h1 (Nat.le_refl _)) hl

/-- What lies in memory when a closure over spans is made. -/
theorem span_mem (w : World) (sp : List (Nat × Nat)) (cs : Array Value) (n : Nat) (hn : sp.length = n) (hcs : ∀ i p, sp[i]? = some p → cs[i * 2]? = some (.int .u8 (p.1 : Nat)) ∧ cs[i * 2 + 1]? = some (.int .u8 (p.2 : Nat)))
    {W : World} (hW : ((w.alloc zeroTok).alloc (.cells cs 99)).alloc (.cells #[.slice (some ⟨w.heap.size + 1, 0, none⟩) n n] 112) = W) :
    W.heap[w.heap.size]? = some zeroTok ∧ Below w.heap.size w W ∧ Spans (w.heap.size + 1 + 1) sp W := by
  subst hW
  refine ⟨block_alloc _ (block_alloc _ (alloc_new _ _)), ext_alloc (ext_alloc (ext_alloc (Below.refl _ _) _) _) _, w.heap.size + 1, ?_, fun i p hp => ?_⟩
  · have := alloc_new ((w.alloc zeroTok).alloc (.cells cs 99)) (.cells #[.slice (some ⟨w.heap.size + 1, 0, none⟩) n n] 112)
    simp only [World.size_alloc] at this
    rw [hn]
    exact cell_block this rfl
  · have := block_alloc (.cells #[.slice (some ⟨w.heap.size + 1, 0, none⟩) n n] 112) (alloc_new (w.alloc zeroTok) (.cells cs 99))
    simp only [World.size_alloc] at this
    exact ⟨cell_block this (hcs i p hp).1, cell_block this (hcs i p hp).2⟩
theorem cs_txt : ∀ i p, [((32 : Nat), (33 : Nat)), (35, 126)][i]? = some p → (#[.int .u8 32, .int .u8 33, .int .u8 35, .int .u8 126] : Array Value)[i * 2]? = some (.int .u8 (p.1 : Nat)) ∧ (#[.int .u8 32, .int .u8 33, .int .u8 35, .int .u8 126] : Array Value)[i * 2 + 1]? = some (.int .u8 (p.2 : Nat))
  | 0, p, h => by cases h; exact ⟨rfl, rfl⟩
  | 1, p, h => by cases h; exact ⟨rfl, rfl⟩
  | n + 2, p, h => by simp at h
theorem cs_dig : ∀ i p, [((48 : Nat), (57 : Nat))][i]? = some p → (#[.int .u8 48, .int .u8 57] : Array Value)[i * 2]? = some (.int .u8 (p.1 : Nat)) ∧ (#[.int .u8 48, .int .u8 57] : Array Value)[i * 2 + 1]? = some (.int .u8 (p.2 : Nat))
  | 0, p, h => by cases h; exact ⟨rfl, rfl⟩
  | n + 1, p, h => by simp at h
theorem cs_row : ∀ i p, [((97 : Nat), (122 : Nat)), (65, 90), (48, 57), (95, 95)][i]? = some p → (#[.int .u8 97, .int .u8 122, .int .u8 65, .int .u8 90, .int .u8 48, .int .u8 57, .int .u8 95, .int .u8 95] : Array Value)[i * 2]? = some (.int .u8 (p.1 : Nat)) ∧ (#[.int .u8 97, .int .u8 122, .int .u8 65, .int .u8 90, .int .u8 48, .int .u8 57, .int .u8 95, .int .u8 95] : Array Value)[i * 2 + 1]? = some (.int .u8 (p.2 : Nat))
  | 0, p, h => by cases h; exact ⟨rfl, rfl⟩
  | 1, p, h => by cases h; exact ⟨rfl, rfl⟩
  | 2, p, h => by cases h; exact ⟨rfl, rfl⟩
  | 3, p, h => by cases h; exact ⟨rfl, rfl⟩
  | n + 4, p, h => by simp at h

def quotV (r : List UInt8) : Value := if r[runN txtB r]? = some 34 then (if 300 < runN txtB r then outV 0 ⟨#[]⟩ 0 1 else outV 3 ⟨(r.take (runN txtB r)).toArray⟩ (runN txtB r + 2) 0) else outV 0 ⟨#[]⟩ 0 2
theorem quotV_none {r : List UInt8} (h : r[runN txtB r]? ≠ some 34) : quotV r = outV 0 ⟨#[]⟩ 0 2 := by unfold quotV; rw [if_neg h]
theorem quotV_long {r : List UInt8} (h : r[runN txtB r]? = some 34) (k : 300 < runN txtB r) : quotV r = outV 0 ⟨#[]⟩ 0 1 := by unfold quotV; rw [if_pos h, if_pos k]
theorem quotV_ok {r : List UInt8} (h : r[runN txtB r]? = some 34) (k : ¬ 300 < runN txtB r) : quotV r = outV 3 ⟨(r.take (runN txtB r)).toArray⟩ (runN txtB r + 2) 0 := by unfold quotV; rw [if_pos h, if_neg k]

theorem byte_at {R : ByteArray} {n : Nat} (h : n < R.size) : R.data.toList[n]? = some R[n] := by
  rw [List.getElem?_eq_getElem (by simpa using h)]; rfl

set_option maxRecDepth 20000 in
set_option maxHeartbeats 2000000 in
theorem quoted_any (s : ByteArray) (hs : s.size ≤ 4000) (h0 : 0 < s.size) (w : World) :
    Calls Tryz.prog 60 #[.string s] w fun e w' => e = .returned (quotV (s.data.toList.drop 1)) ∧ Below w.heap.size w w' := by
  have h1' : (1 : Int) ≤ (s.size : Int) := by omega
  have hW := fun v u h => within_any v u h
  rw [← drop_list s 1]
  obtain ⟨V, hV⟩ : ∃ V, quotV (s.extract 1 s.size).data.toList = V := ⟨_, rfl⟩
  rw [hV]
  replace hV : Hid _ := hV
  go_enter Tryz.func60, Tryz.ntmps60
  go_wp2_with (first | (go_at_call 58; refine (hW _ _ ⟨_, _, _, rfl⟩).mono ?_; rintro e w' ⟨rfl, rfl⟩) | (go_at_call 57; refine Hid.out ?_))
  have hz : (s.extract 1 s.size).size ≤ 4000 := by simp; omega
  obtain ⟨R, hR⟩ : ∃ R, s.extract 1 s.size = R := ⟨_, rfl⟩
  obtain ⟨W, hWW⟩ : ∃ W, ((w.alloc zeroTok).alloc (.cells #[.int .u8 32, .int .u8 33, .int .u8 35, .int .u8 126] 99)).alloc (.cells #[.slice (some ⟨w.heap.size + 1, 0, none⟩) 2 2] 112) = W := ⟨_, rfl⟩
  obtain ⟨hr, hb, hsp⟩ := span_mem w [(32, 33), (35, 126)] _ 2 rfl cs_txt hWW
  rw [hR] at hz hV ⊢
  rw [hWW]
  have hrun := run_67 R hz _ txtB W (says_of hsp (by decide) inSp_txt)
  have hle := runN_le txtB R.data.toList
  have hle2 : runN txtB R.data.toList ≤ R.size := by simpa using hle
  clear hWW hR hW hsp hle h1' h0 hs
  have hq1 := quotV_none (r := R.data.toList)
  have hq2 := quotV_long (r := R.data.toList)
  have hq3 := quotV_ok (r := R.data.toList)
  rw [← take_list] at hq3
  obtain ⟨n, hn⟩ : ∃ n, runN txtB R.data.toList = n := ⟨_, rfl⟩
  rw [hn] at hrun hle2 hq1 hq2 hq3
  rw [ba_list] at hq3
  clear hn
  rw [hV.out] at hq1 hq2 hq3
  clear hV
  have hqq : Hid _ := And.intro hq1 (And.intro hq2 hq3)
  clear hq1 hq2 hq3
  have hM := fun u => made_any 3 (R.extract 0 n) (by simp; omega) u
  refine hrun.mono ?_
  rintro e w2 ⟨rfl, hb2⟩
  clear hrun
  have hr2 := block_below hb2 hr
  have hbb := ext_trans hb hb2
  clear hb hr hb2
  obtain ⟨c0, c1, c2, f0, f1, f2⟩ := in3 hr2
  by_cases he : n = R.size
  · have hx : ((n : Int) == (R.size : Int)) = true := by simp [he]
    have hE : Hid (V = outV 0 ⟨#[]⟩ 0 2) := hqq.out.1 (by rw [List.getElem?_eq_none (by simp; omega)]; simp)
    clear he hqq
    refine Lib.hid ?_
    go_wp2
    exact bodyPost_ret (res50 rfl rfl rfl (put3_same _ _ _ hr2)) rfl ⟨congrArg _ hE.out.symm, put3_below _ _ _ hbb (Nat.le_refl _)⟩
  · have hlt : n < R.size := by omega
    have hx : ((n : Int) == (R.size : Int)) = false := by simp; omega
    have hby := byte_at hlt
    by_cases hc : R[n].toNat = 34
    · have hc1 : R[n] = 34 := UInt8.toNat_inj.1 hc
      have hx2 : ((R[n].toNat : Int) == 34) = true := by simp [hc]
      rw [hc1] at hby
      by_cases hn3 : 300 < n
      · have hE : Hid (V = outV 0 ⟨#[]⟩ 0 1) := hqq.out.2.1 hby hn3
        have hi3 : (300 : Int) < (n : Int) := by omega
        clear hqq hby hc hc1 he
        refine Lib.hid ?_
        go_wp2
        exact bodyPost_ret (res50 rfl rfl rfl (put3_same _ _ _ hr2)) rfl ⟨congrArg _ hE.out.symm, put3_below _ _ _ hbb (Nat.le_refl _)⟩
      · have hE : Hid (V = outV 3 (R.extract 0 n) (n + 2) 0) := hqq.out.2.2 hby hn3
        have hi3 : ¬ (300 : Int) < (n : Int) := by omega
        clear hqq hby hc hc1 he
        refine Lib.hid ?_
        go_wp2_with (go_at_call 77; refine (hM _).mono ?_; rintro e w3 ⟨rfl, hb3⟩; have hr3 := block_below hb3 hr2; obtain ⟨c0, c1, c2, f0, f1, f2⟩ := in3 hr3)
        exact bodyPost_ret (res50 rfl rfl rfl (put3_same _ _ _ hr3)) rfl ⟨congrArg _ (hE.out.trans (by simp)).symm, put3_below _ _ _ (ext_trans hbb hb3) (Nat.le_refl _)⟩
    · have hx2 : ((R[n].toNat : Int) == 34) = false := by simp; omega
      have hE : Hid (V = outV 0 ⟨#[]⟩ 0 2) := hqq.out.1 (by rw [hby]; intro e; apply hc; injection e with e; rw [e]; rfl)
      clear hqq hby hc he
      refine Lib.hid ?_
      go_wp2
      exact bodyPost_ret (res50 rfl rfl rfl (put3_same _ _ _ hr2)) rfl ⟨congrArg _ hE.out.symm, put3_below _ _ _ hbb (Nat.le_refl _)⟩
end Go.Proofs.YtnnppenlfocgiaaGreatDoor
namespace Go.Proofs.YtnnppenlfocgiaaGreatDoor
open Go.RowKit
open Go

/-- The library's variable holds an error, or nil. -/
def ErrV (w : World) : Prop := ∃ ev, w.cell? ⟨3, 0, none⟩ = some ev ∧ (ev = .nilIface ∨ ∃ te pe, ev = .iface te pe)
theorem ErrV.on {w w' : World} (h : ErrV w) (hb : Below w.heap.size w w') : ErrV w' := by
  obtain ⟨ev, h1, h2⟩ := h
  exact ⟨ev, (hb.cell (p := ⟨3, 0, none⟩) (World.block_lt_of_cell? _ _ h1)).trans h1, h2⟩

def wnV (l : List UInt8) : Value :=
  if (l.head?.map digB).getD false = false then (if 16 < l.length then outV 0 ⟨#[]⟩ 0 1 else outV 1 ⟨l.toArray⟩ l.length 0)
  else if numE l = 0 then outV 2 ⟨l.toArray⟩ l.length 0 else outV 0 ⟨#[]⟩ 0 (numE l)

theorem allRunB (p : UInt8 → Bool) : ∀ l : List UInt8, l.all p = decide (l.length ≤ runN p l)
  | [] => by simp [runN]
  | c :: r => by
    have := runN_le p r
    rw [List.all_cons, allRunB p r, runN]
    cases p c
    · simp
    · simp

theorem parse_ok (s : ByteArray) (hs : s.size ≤ 4000) (v : Int) (h : Lib.parseIntB 64 s.data.toList = .ok v) (w : World) :
    Calls Tryz.prog 78 #[.string s, .int .i64 10, .int .i64 64] w fun e w' => e = .returned (.tuple #[.int .i64 v, .nilIface]) ∧ Below w.heap.size w w' := by
  refine (Tryz.strconv_ParseInt_10_at64_ok s (by omega) v h w).mono ?_
  rintro e w' ⟨rfl, hW⟩
  refine ⟨rfl, ?_⟩
  rcases hW with rfl | ⟨t, rfl⟩
  · exact Below.refl _ _
  · exact Lib.bytesWorld_below _ _ _
theorem parse_range (s : ByteArray) (hs : s.size ≤ 4000) (h : Lib.parseIntB 64 s.data.toList = .range) (w : World) (hv : ErrV w) :
    Calls Tryz.prog 78 #[.string s, .int .i64 10, .int .i64 64] w fun e w' => ∃ v N, e = .returned (.tuple #[.int .i64 v, .iface 147 (.pointer (some ⟨N, 0, none⟩))]) ∧ Below w.heap.size w w' := by
  obtain ⟨ev, h1, h2⟩ := hv
  refine (Tryz.strconv_ParseInt_10_at64_range s (by omega) h ev w h1 h2).mono ?_
  rintro e w' ⟨N, rfl, _, _, hb⟩
  exact ⟨_, N, rfl, hb⟩

/-- What a row of letters and digits meets. -/
theorem wn_cases (c : UInt8) (r : List UInt8) :
    (digB c = false ∧ 16 < (c :: r).length ∧ wnV (c :: r) = outV 0 ⟨#[]⟩ 0 1) ∨
    (digB c = false ∧ ¬ 16 < (c :: r).length ∧ wnV (c :: r) = outV 1 ⟨(c :: r).toArray⟩ (c :: r).length 0) ∨
    (digB c = true ∧ runN digB (c :: r) < (c :: r).length ∧ wnV (c :: r) = outV 0 ⟨#[]⟩ 0 2) ∨
    (digB c = true ∧ ¬ runN digB (c :: r) < (c :: r).length ∧ c = 48 ∧ 1 < (c :: r).length ∧ wnV (c :: r) = outV 0 ⟨#[]⟩ 0 2) ∨
    (digB c = true ∧ ¬ runN digB (c :: r) < (c :: r).length ∧ ¬ (c = 48 ∧ 1 < (c :: r).length) ∧ Lib.parseIntB 64 (c :: r) = .range ∧ wnV (c :: r) = outV 0 ⟨#[]⟩ 0 6) ∨
    (digB c = true ∧ ¬ runN digB (c :: r) < (c :: r).length ∧ ¬ (c = 48 ∧ 1 < (c :: r).length) ∧ Lib.parseIntB 64 (c :: r) = .ok (numV (c :: r) : Int) ∧ wnV (c :: r) = outV 2 ⟨(c :: r).toArray⟩ (c :: r).length 0) := by
  have hall := allRunB digB (c :: r)
  have hle := runN_le digB (c :: r)
  have hh : (((c :: r).head?.map digB).getD false) = digB c := rfl
  unfold wnV
  rw [hh]
  cases hc : digB c
  · by_cases h : 16 < (c :: r).length
    · left; exact ⟨rfl, h, by rw [if_pos rfl, if_pos h]⟩
    · right; left; exact ⟨rfl, h, by rw [if_pos rfl, if_neg h]⟩
  right; right
  by_cases h1 : runN digB (c :: r) < (c :: r).length
  · left
    have : numE (c :: r) = 2 := by unfold numE; rw [hall, if_pos (by simp only [decide_eq_false_iff_not]; omega)]
    exact ⟨rfl, h1, by rw [if_neg (by simp), this]; rfl⟩
  right
  have ha : (c :: r).all digB = true := by rw [hall]; simp only [decide_eq_true_eq]; omega
  by_cases h2 : c = 48 ∧ 1 < (c :: r).length
  · left
    have : numE (c :: r) = 2 := by unfold numE; rw [ha, if_neg (by simp), if_pos ⟨h2.2, by rw [h2.1]; rfl⟩]
    exact ⟨rfl, h1, h2.1, h2.2, by rw [if_neg (by simp), this]; rfl⟩
  right
  have hp := parse_digits (c :: r) (by simp) ha
  have h2' : ¬ (1 < (c :: r).length ∧ (c :: r).head? = some 48) := fun h => h2 ⟨by simpa using h.2, h.1⟩
  by_cases h3 : 9223372036854775807 < numV (c :: r)
  · left
    have : numE (c :: r) = 6 := by unfold numE; rw [ha, if_neg (by simp), if_neg h2', if_pos h3]
    exact ⟨rfl, h1, h2, by rw [hp, if_pos h3], by rw [if_neg (by simp), this]; rfl⟩
  · right
    have : numE (c :: r) = 0 := by unfold numE; rw [ha, if_neg (by simp), if_neg h2', if_neg h3]
    exact ⟨rfl, h1, h2, by rw [hp, if_neg h3], by rw [if_neg (by simp), this]; rfl⟩

set_option maxRecDepth 20000 in
set_option maxHeartbeats 2000000 in
theorem wn_any (s : ByteArray) (hs : s.size ≤ 4000) (h0 : 0 < s.size) (w : World) (hE : ErrV w) :
    Calls Tryz.prog 59 #[.string s] w fun e w' => e = .returned (wnV s.data.toList) ∧ Below w.heap.size w w' := by
  have h0' : (0 : Int) < (s.size : Int) := by omega
  have hW := fun v u h => within_any v u h
  obtain ⟨V, hV⟩ : ∃ V, wnV s.data.toList = V := ⟨_, rfl⟩
  rw [hV]
  replace hV : Hid _ := hV
  replace hE : Hid _ := hE
  go_enter Tryz.func59, Tryz.ntmps59
  go_wp2_with (first | (go_at_call 58; refine (hW _ _ ⟨_, _, _, rfl⟩).mono ?_; rintro e w' ⟨rfl, rfl⟩) | (go_at_call 76; refine Hid.out ?_))
  obtain ⟨W, hWW⟩ : ∃ W, ((w.alloc zeroTok).alloc (.cells #[.int .u8 48, .int .u8 57] 99)).alloc (.cells #[.slice (some ⟨w.heap.size + 1, 0, none⟩) 1 1] 112) = W := ⟨_, rfl⟩
  obtain ⟨hr, hb, hsp⟩ := span_mem w [(48, 57)] _ 1 rfl cs_dig hWW
  rw [hWW]
  have hsay := says_of hsp (by decide) inSp_dig
  have hask := hsay s[0] W (Below.refl _ _)
  obtain ⟨c, r, hl, hc, _⟩ := list_cons s h0
  have hC := wn_cases c r
  rw [← hl, hV.out] at hC
  have hlen : s.data.toList.length = s.size := by simp
  have hba := ba_list s
  rw [hlen, hba] at hC
  have hM1 := fun u => made_any 1 s hs u
  have hM2 := fun u => made_any 2 s hs u
  clear hWW hW hsp hV hlen hba hl
  rw [← hc] at hC
  clear hc
  refine hask.mono ?_
  rintro e w2 ⟨rfl, hb2⟩
  clear hask
  have hr2 := block_below hb2 hr
  have hbb := ext_trans hb hb2
  have hsay2 := hsay.on hb2
  have hE2 : ErrV w2 := ErrV.on (ErrV.on hE.out hb) hb2
  clear hb hr hb2 hE hsay
  obtain ⟨c0, c1, c2, f0, f1, f2⟩ := in3 hr2
  have hrun := run_67 s hs _ digB w2 hsay2
  clear hsay2
  rcases hC with ⟨e1, e2, e3⟩ | ⟨e1, e2, e3⟩ | ⟨e1, e2, e3⟩ | ⟨e1, e2, e3, e4, e5⟩ | ⟨e1, e2, e3, e4, e5⟩ | ⟨e1, e2, e3, e4, e5⟩
  · have e2' : (16 : Int) < (s.size : Int) := by omega
    replace e3 : Hid _ := e3
    rw [e1]
    refine Lib.hid ?_
    go_wp2
    exact bodyPost_ret (res49 rfl rfl rfl (put3_same _ _ _ hr2)) rfl ⟨congrArg _ e3.out.symm, put3_below _ _ _ hbb (Nat.le_refl _)⟩
  · have e2' : ¬ (16 : Int) < (s.size : Int) := by omega
    replace e3 : Hid _ := e3
    rw [e1]
    refine Lib.hid ?_
    go_wp2_with (go_at_call 77; refine (hM1 _).mono ?_; rintro e w3 ⟨rfl, hb3⟩; have hr3 := block_below hb3 hr2; obtain ⟨c0, c1, c2, f0, f1, f2⟩ := in3 hr3)
    exact bodyPost_ret (res49 rfl rfl rfl (put3_same _ _ _ hr3)) rfl ⟨congrArg _ e3.out.symm, put3_below _ _ _ (ext_trans hbb hb3) (Nat.le_refl _)⟩
  · obtain ⟨n, hn⟩ : ∃ n, runN digB s.data.toList = n := ⟨_, rfl⟩
    rw [hn] at e2 hrun
    have e2' : (n : Int) < (s.size : Int) := by omega
    clear hn e2
    replace e3 : Hid _ := e3
    rw [e1]
    refine Lib.hid ?_
    go_wp2_with (go_at_call 57; refine hrun.mono ?_; rintro e w3 ⟨rfl, hb3⟩; have hr3 := block_below hb3 hr2; obtain ⟨c0, c1, c2, f0, f1, f2⟩ := in3 hr3)
    exact bodyPost_ret (res49 rfl rfl rfl (put3_same _ _ _ hr3)) rfl ⟨congrArg _ e3.out.symm, put3_below _ _ _ (ext_trans hbb hb3) (Nat.le_refl _)⟩
  · obtain ⟨n, hn⟩ : ∃ n, runN digB s.data.toList = n := ⟨_, rfl⟩
    rw [hn] at e2 hrun
    have e2' : ¬ (n : Int) < (s.size : Int) := by omega
    have e3' : ((s[0].toNat : Int) == 48) = true := by rw [e3]; rfl
    have e4' : (1 : Int) < (s.size : Int) := by omega
    clear hn e2 e3 e4
    replace e5 : Hid _ := e5
    rw [e1]
    refine Lib.hid ?_
    go_wp2_with (go_at_call 57; refine hrun.mono ?_; rintro e w3 ⟨rfl, hb3⟩; have hr3 := block_below hb3 hr2; obtain ⟨c0, c1, c2, f0, f1, f2⟩ := in3 hr3)
    exact bodyPost_ret (res49 rfl rfl rfl (put3_same _ _ _ hr3)) rfl ⟨congrArg _ e5.out.symm, put3_below _ _ _ (ext_trans hbb hb3) (Nat.le_refl _)⟩
  · obtain ⟨n, hn⟩ : ∃ n, runN digB s.data.toList = n := ⟨_, rfl⟩
    rw [hn] at e2 hrun
    have e2' : ¬ (n : Int) < (s.size : Int) := by omega
    clear hn e2
    replace e5 : Hid _ := e5
    replace hE2 : Hid _ := hE2
    have hP := fun u hu => parse_range s hs e4 u hu
    clear e4
    by_cases k : s[0] = 48
    · have k1 : ((s[0].toNat : Int) == 48) = true := by rw [k]; rfl
      have k2 : ¬ (1 : Int) < (s.size : Int) := fun h => e3 ⟨k, by omega⟩
      clear k e3
      rw [e1]
      refine Lib.hid ?_
      go_wp2_with (first | (go_at_call 57; refine hrun.mono ?_; rintro e w3 ⟨rfl, hb3⟩; have hr3 := block_below hb3 hr2) | (go_at_call 78; refine (hP _ (ErrV.on hE2.out hb3)).mono ?_; rintro e w4 ⟨v4, N4, rfl, hb4⟩; have hr4 := block_below hb4 hr3; obtain ⟨c0, c1, c2, f0, f1, f2⟩ := in3 hr4))
      exact bodyPost_ret (res49 rfl rfl rfl (put3_same _ _ _ hr4)) rfl ⟨congrArg _ e5.out.symm, put3_below _ _ _ (ext_trans (ext_trans hbb hb3) hb4) (Nat.le_refl _)⟩
    · have k1 : ((s[0].toNat : Int) == 48) = false := by
        have : s[0].toNat ≠ 48 := fun e => k (UInt8.toNat_inj.1 e)
        simp; omega
      clear k e3
      rw [e1]
      refine Lib.hid ?_
      go_wp2_with (first | (go_at_call 57; refine hrun.mono ?_; rintro e w3 ⟨rfl, hb3⟩; have hr3 := block_below hb3 hr2) | (go_at_call 78; refine (hP _ (ErrV.on hE2.out hb3)).mono ?_; rintro e w4 ⟨v4, N4, rfl, hb4⟩; have hr4 := block_below hb4 hr3; obtain ⟨c0, c1, c2, f0, f1, f2⟩ := in3 hr4))
      exact bodyPost_ret (res49 rfl rfl rfl (put3_same _ _ _ hr4)) rfl ⟨congrArg _ e5.out.symm, put3_below _ _ _ (ext_trans (ext_trans hbb hb3) hb4) (Nat.le_refl _)⟩
  · obtain ⟨n, hn⟩ : ∃ n, runN digB s.data.toList = n := ⟨_, rfl⟩
    rw [hn] at e2 hrun
    have e2' : ¬ (n : Int) < (s.size : Int) := by omega
    clear hn e2
    replace e5 : Hid _ := e5
    replace hE2 : Hid _ := hE2
    have hP := fun u => parse_ok s hs _ e4 u
    clear e4
    by_cases k : s[0] = 48
    · have k1 : ((s[0].toNat : Int) == 48) = true := by rw [k]; rfl
      have k2 : ¬ (1 : Int) < (s.size : Int) := fun h => e3 ⟨k, by omega⟩
      clear k e3
      rw [e1]
      refine Lib.hid ?_
      go_wp2_with (first | (go_at_call 57; refine hrun.mono ?_; rintro e w3 ⟨rfl, hb3⟩; have hr3 := block_below hb3 hr2) | (go_at_call 78; refine (hP _).mono ?_; rintro e w4 ⟨rfl, hb4⟩; have hr4 := block_below hb4 hr3) | (go_at_call 77; refine (hM2 _).mono ?_; rintro e w5 ⟨rfl, hb5⟩; have hr5 := block_below hb5 hr4; obtain ⟨c0, c1, c2, f0, f1, f2⟩ := in3 hr5))
      exact bodyPost_ret (res49 rfl rfl rfl (put3_same _ _ _ hr5)) rfl ⟨congrArg _ e5.out.symm, put3_below _ _ _ (ext_trans (ext_trans (ext_trans hbb hb3) hb4) hb5) (Nat.le_refl _)⟩
    · have k1 : ((s[0].toNat : Int) == 48) = false := by
        have : s[0].toNat ≠ 48 := fun e => k (UInt8.toNat_inj.1 e)
        simp; omega
      clear k e3
      rw [e1]
      refine Lib.hid ?_
      go_wp2_with (first | (go_at_call 57; refine hrun.mono ?_; rintro e w3 ⟨rfl, hb3⟩; have hr3 := block_below hb3 hr2) | (go_at_call 78; refine (hP _).mono ?_; rintro e w4 ⟨rfl, hb4⟩; have hr4 := block_below hb4 hr3) | (go_at_call 77; refine (hM2 _).mono ?_; rintro e w5 ⟨rfl, hb5⟩; have hr5 := block_below hb5 hr4; obtain ⟨c0, c1, c2, f0, f1, f2⟩ := in3 hr5))
      exact bodyPost_ret (res49 rfl rfl rfl (put3_same _ _ _ hr5)) rfl ⟨congrArg _ e5.out.symm, put3_below _ _ _ (ext_trans (ext_trans (ext_trans hbb hb3) hb4) hb5) (Nat.le_refl _)⟩
end Go.Proofs.YtnnppenlfocgiaaGreatDoor
namespace Go.Proofs.YtnnppenlfocgiaaGreatDoor
open Go.RowKit
open Go

theorem wn_form (l : List UInt8) : ∃ k t n e, wnV l = outV k t n e := by
  unfold wnV
  split
  · split <;> exact ⟨_, _, _, _, rfl⟩
  · split <;> exact ⟨_, _, _, _, rfl⟩
theorem quot_form (l : List UInt8) : ∃ k t n e, quotV l = outV k t n e := by
  unfold quotV
  split
  · split <;> exact ⟨_, _, _, _, rfl⟩
  · exact ⟨_, _, _, _, rfl⟩
theorem sign_form (l : List UInt8) : ∃ k t n e, signV l = outV k t n e := by
  unfold signV
  split <;> exact ⟨_, _, _, _, rfl⟩

theorem let_not_dig {c : UInt8} (h : letB c = true) : digB c = false := by
  simp [letB] at h
  simp [digB]
  omega
theorem first_row (c : UInt8) (r : List UInt8) (h : 0 < runN rowB (c :: r)) : outR (tokR (c :: r)) = wnV ((c :: r).take (runN rowB (c :: r))) := by
  have hle := runN_le rowB (c :: r)
  obtain ⟨n, hn⟩ : ∃ n, runN rowB (c :: r) = n + 1 := ⟨runN rowB (c :: r) - 1, by omega⟩
  have hc : rowB c = true := by
    cases h' : rowB c
    · simp [runN, h'] at h
    · rfl
  have hh : (((c :: r).take (n + 1)).head?.map digB).getD false = digB c := by simp
  have hlen : ((c :: r).take (n + 1)).length = n + 1 := by rw [List.length_take]; omega
  unfold tokR wnV
  simp only
  rw [hn, hh, hlen]
  by_cases hl : letB c = true
  · rw [if_pos hl, let_not_dig hl, if_pos rfl]
    split <;> rfl
  · have hd : digB c = true := by
      simp only [rowB, Bool.or_eq_true] at hc
      exact hc.resolve_left hl
    rw [if_neg hl, if_pos hd, hd, if_neg (show ¬ (true = false) by decide)]
    split <;> rfl
theorem first_not (c : UInt8) (r : List UInt8) (h : ¬ 0 < runN rowB (c :: r)) : letB c = false ∧ digB c = false := by
  have hc : rowB c = false := by
    cases h' : rowB c
    · rfl
    · simp [runN, h'] at h
  simpa [rowB] using hc
theorem first_quot (c : UInt8) (r : List UInt8) (h : ¬ 0 < runN rowB (c :: r)) (hc : c.toNat = 34) : outR (tokR (c :: r)) = quotV ((c :: r).drop 1) := by
  obtain ⟨h1, h2⟩ := first_not c r h
  unfold tokR quotV
  simp only
  rw [if_neg (by simp [h1]), if_neg (by simp [h2]), if_pos hc]
  simp only [List.drop_succ_cons, List.drop_zero]
  split
  · split <;> rfl
  · rfl
theorem first_sign (c : UInt8) (r : List UInt8) (h : ¬ 0 < runN rowB (c :: r)) (hc : ¬ c.toNat = 34) : outR (tokR (c :: r)) = signV (c :: r) := by
  obtain ⟨h1, h2⟩ := first_not c r h
  unfold tokR signV
  simp only
  rw [if_neg (by simp [h1]), if_neg (by simp [h2]), if_neg hc]
  split <;> rfl

set_option maxRecDepth 20000 in
set_option maxHeartbeats 2000000 in
theorem first_any (s : ByteArray) (hs : s.size ≤ 4000) (h0 : 0 < s.size) (w : World) (hE : ErrV w) :
    Calls Tryz.prog 37 #[.string s] w fun e w' => e = .returned (outR (tokR s.data.toList)) ∧ Below w.heap.size w w' := by
  have h0' : (0 : Int) < (s.size : Int) := by omega
  have hW := fun v u h => within_any v u h
  obtain ⟨V, hV⟩ : ∃ V, outR (tokR s.data.toList) = V := ⟨_, rfl⟩
  rw [hV]
  replace hV : Hid _ := hV
  replace hE : Hid _ := hE
  go_enter Tryz.func37, Tryz.ntmps37
  go_wp2_with (first | (go_at_call 58; refine (hW _ _ ⟨_, _, _, rfl⟩).mono ?_; rintro e w' ⟨rfl, rfl⟩) | (go_at_call 57; refine Hid.out ?_))
  obtain ⟨W, hWW⟩ : ∃ W, ((w.alloc zeroTok).alloc (.cells #[.int .u8 97, .int .u8 122, .int .u8 65, .int .u8 90, .int .u8 48, .int .u8 57, .int .u8 95, .int .u8 95] 99)).alloc (.cells #[.slice (some ⟨w.heap.size + 1, 0, none⟩) 4 4] 112) = W := ⟨_, rfl⟩
  obtain ⟨hr, hb, hsp⟩ := span_mem w [(97, 122), (65, 90), (48, 57), (95, 95)] _ 4 rfl cs_row hWW
  rw [hWW]
  have hrun := run_67 s hs _ rowB W (says_of hsp (by decide) inSp_row)
  have hle := runN_le rowB s.data.toList
  have hle2 : runN rowB s.data.toList ≤ s.size := by simpa using hle
  obtain ⟨c, r, hl, hc, _⟩ := list_cons s h0
  have q1 := first_row c r
  have q2 := first_quot c r
  have q3 := first_sign c r
  rw [← hl, hV.out] at q1 q2 q3
  rw [← hc] at q2 q3
  rw [← take_list] at q1
  obtain ⟨n, hn⟩ : ∃ n, runN rowB s.data.toList = n := ⟨_, rfl⟩
  rw [hn] at hrun hle2 q1 q2 q3
  clear hWW hW hsp hle hV hl hc hn
  have hq : Hid _ := And.intro q1 (And.intro q2 q3)
  clear q1 q2 q3
  refine hrun.mono ?_
  rintro e w2 ⟨rfl, hb2⟩
  clear hrun
  have hr2 := block_below hb2 hr
  have hbb := ext_trans hb hb2
  have hE2 : ErrV w2 := ErrV.on (ErrV.on hE.out hb) hb2
  clear hb hr hb2 hE
  by_cases hn0 : 0 < n
  · have hq1 := hq.out.1 hn0
    have hx : (0 : Int) < (n : Int) := by omega
    have hC := wn_any (s.extract 0 n) (by simp; omega) (by simp; omega) w2 hE2
    obtain ⟨k1, t1, n1, e1, hf⟩ := wn_form (s.extract 0 n).data.toList
    rw [hf] at hC hq1
    clear hf hq hE2
    subst hq1
    refine Lib.hid ?_
    go_wp2_with (go_at_call 59; refine hC.mono ?_; rintro e w3 ⟨rfl, hb3⟩; have hr3 := block_below hb3 hr2; obtain ⟨c0, c1, c2, f0, f1, f2⟩ := in3 hr3)
    exact bodyPost_ret (res36 rfl rfl rfl (put3_same _ _ _ hr3)) rfl ⟨rfl, put3_below _ _ _ (ext_trans hbb hb3) (Nat.le_refl _)⟩
  · have hx : ¬ (0 : Int) < (n : Int) := by omega
    by_cases hc : s[0].toNat = 34
    · have hx2 : ((s[0].toNat : Int) == 34) = true := by simp [hc]
      have hq1 := hq.out.2.1 hn0 hc
      have hC := quoted_any s hs h0 w2
      obtain ⟨k1, t1, n1, e1, hf⟩ := quot_form (s.data.toList.drop 1)
      rw [hf] at hC hq1
      clear hf hq hE2 hc hn0
      subst hq1
      refine Lib.hid ?_
      go_wp2_with (go_at_call 60; refine hC.mono ?_; rintro e w3 ⟨rfl, hb3⟩; have hr3 := block_below hb3 hr2; obtain ⟨c0, c1, c2, f0, f1, f2⟩ := in3 hr3)
      exact bodyPost_ret (res36 rfl rfl rfl (put3_same _ _ _ hr3)) rfl ⟨rfl, put3_below _ _ _ (ext_trans hbb hb3) (Nat.le_refl _)⟩
    · have hx2 : ((s[0].toNat : Int) == 34) = false := by simp; omega
      have hq1 := hq.out.2.2 hn0 hc
      have hC := sign_any s hs h0 w2
      obtain ⟨k1, t1, n1, e1, hf⟩ := sign_form s.data.toList
      rw [hf] at hC hq1
      clear hf hq hE2 hc hn0
      subst hq1
      refine Lib.hid ?_
      go_wp2_with (go_at_call 61; refine hC.mono ?_; rintro e w3 ⟨rfl, hb3⟩; have hr3 := block_below hb3 hr2; obtain ⟨c0, c1, c2, f0, f1, f2⟩ := in3 hr3)
      exact bodyPost_ret (res36 rfl rfl rfl (put3_same _ _ _ hr3)) rfl ⟨rfl, put3_below _ _ _ (ext_trans hbb hb3) (Nat.le_refl _)⟩
end Go.Proofs.YtnnppenlfocgiaaGreatDoor
namespace Go.Proofs.YtnnppenlfocgiaaGreatDoor
open Go.RowKit
open Go

theorem info44 : (Tryz.prog.info? 55).map (fun i => (i.zero, i.size, i.bytes)) = some (some (.agg #[.int .i64 0, .string ⟨#[]⟩, .int .i64 0]), 3, 32) := by kernel_rfl

/-- A token's three cells. -/
def Tok.b (x : Tok) : ByteArray := ⟨x.t.toArray⟩
abbrev trioT (x : Tok) : List Value := [.int .i64 x.k, .string x.b, .int .i64 (x.a : Nat)]
def flatT (xs : List Tok) : List Value := xs.flatMap trioT
theorem flatT_snoc (xs : List Tok) (x : Tok) : flatT (xs ++ [x]) = flatT xs ++ trioT x := by simp [flatT]
theorem flatT_get {xs : List Tok} {j : Nat} {x : Tok} (h : xs[j]? = some x) (i : Nat) (hi : i < 3) : (flatT xs)[j * 3 + i]? = (trioT x)[i]? := by
  induction xs generalizing j with
  | nil => simp at h
  | cons y xs ih =>
    cases j with
    | zero =>
      simp at h
      subst h
      simp only [flatT, List.flatMap_cons]
      rw [List.getElem?_append_left (by simp; omega)]
      congr 1
      omega
    | succ j =>
      simp at h
      have := ih h
      simp only [flatT, List.flatMap_cons] at this ⊢
      rw [List.getElem?_append_right (by simp; omega), ← this]
      congr 1
      simp
      omega

theorem own_ge {base : Nat} {W : World} {v : Value} {n : Nat} {xs : List Value} (h : W.ownsRow base 55 3 v n xs) {b : Nat} (hb : v.ownBlock = some b) : base ≤ b ∧ b < W.heap.size := by
  rcases h.2 with ⟨rfl, _⟩ | ⟨g, cap, cur, rfl, hge, hg, _⟩
  · simp [Value.ownBlock] at hb
  · obtain rfl : g = b := by simpa [Value.ownBlock] using hb
    exact ⟨hge, (Array.getElem?_eq_some_iff.1 hg).1⟩
theorem own_kept {base : Nat} {W W' : World} {v : Value} {n : Nat} {xs : List Value} (h : W.ownsRow base 55 3 v n xs) (hw : ∀ b, v.ownBlock = some b → W'.heap[b]? = W.heap[b]?) : W'.ownsRow base 55 3 v n xs := by
  refine ⟨h.1, ?_⟩
  rcases h.2 with h0 | ⟨g, cap, cur, rfl, hge, hg, hr⟩
  · exact .inl h0
  · exact .inr ⟨g, cap, cur, rfl, hge, (hw g rfl).trans hg, hr⟩
theorem own_below {base : Nat} {W W' : World} {v : Value} {n : Nat} {xs : List Value} (h : W.ownsRow base 55 3 v n xs) (hb : Below W.heap.size W W') : W'.ownsRow base 55 3 v n xs :=
  own_kept h fun b e => hb.block b (own_ge h e).2

abbrev zeroF : Obj := .cells #[.int .i64 0, .int .i64 0] 27

/-- Between two rounds of a Scan. -/
structure SI (w : World) (v : Value) (ts : List Tok) (W : World) : Prop where
  own : W.ownsRow (w.heap.size + 1) 55 3 v ts.length (flatT ts)
  r : W.heap[w.heap.size]? = some zeroF
  bl : Below w.heap.size w W
theorem SI.on {w : World} {v : Value} {ts : List Tok} {W W' : World} (h : SI w v ts W) (hb : Below W.heap.size W W') : SI w v ts W' :=
  ⟨own_below h.own hb, block_below hb h.r, ext_trans h.bl hb⟩
theorem SI.step {w : World} {v : Value} {ts : List Tok} {x : Tok} {W w3 : World} {g cap : Nat} (h : SI w v ts W)
    (hown : w3.ownsRow (w.heap.size + 1) 55 3 (.slice (some ⟨g, 0, none⟩) (ts.length + 1) cap) (ts.length + 1) (flatT ts ++ trioT x)) (hg : W.grownBy w3 v.ownBlock) :
    SI w (.slice (some ⟨g, 0, none⟩) (ts.length + 1) cap) (ts ++ [x]) w3 := by
  have hlt := block_lt h.r
  have far : ∀ C, C < w.heap.size + 1 → w3.heap[C]? = W.heap[C]? := fun C hC => hg.block C (by omega) (fun e => by have := (own_ge h.own e.symm).1; omega)
  refine ⟨?_, (far _ (by omega)).trans h.r, h.bl.trans ⟨hg.os, hg.tape, hg.output, hg.size, fun C hC => far C (by omega)⟩⟩
  rw [flatT_snoc, List.length_append]
  exact hown
theorem newsT {W : World} {B : Nat} {x : Tok} (h : W.heap[B]? = some (tbx x.k x.b (x.a : Nat))) : ∀ j u, (trioT x)[j]? = some u → W.cell? ((⟨B, 0, none⟩ : Addr).add j) = some u := World.news_of_block (cs := #[.int .i64 x.k, .string x.b, .int .i64 (x.a : Nat)]) h

def toksOf : ScanR → List Tok
  | .inl _ => []
  | .inr l => l
def codeOf : ScanR → Int
  | .inl (e, _) => e
  | .inr _ => 0
def placeOf : ScanR → Nat
  | .inl (_, a) => a
  | .inr _ => 0
/-- What a Scan answers. -/
structure Out (w : World) (R : ScanR) (e : Ending) (w' : World) : Prop where
  out : ∃ b n d, e = .returned (.tuple #[.slice b n d, .agg #[.int .i64 (codeOf R), .int .i64 (placeOf R : Nat)]]) ∧ w'.ownsRow (w.heap.size + 1) 55 3 (.slice b n d) (toksOf R).length (flatT (toksOf R))
  bl : Below w.heap.size w w'

def scanAll (l : List UInt8) : ScanR := if 4000 < l.length then .bad 1 0 else scanR 0 l

theorem put2_same {W : World} {B : Nat} {p q p' q' : Value} (h : W.heap[B]? = some (.cells #[p, q] 27)) : ((W.setCell ⟨B, 0, none⟩ p').setCell ⟨B, 1, none⟩ q').heap[B]? = some (.cells #[p', q'] 27) := set_block _ (set_block _ h)
theorem put2_other (W : World) {B C : Nat} (p q : Value) (h : C ≠ B) : ((W.setCell ⟨B, 0, none⟩ p).setCell ⟨B, 1, none⟩ q).heap[C]? = W.heap[C]? := (set1_other _ _ h).trans (set1_other _ _ h)
theorem put2_below {m : Nat} {w W : World} {B : Nat} (p q : Value) (h : Below m w W) (hB : m ≤ B) : Below m w ((W.setCell ⟨B, 0, none⟩ p).setCell ⟨B, 1, none⟩ q) := (h.setCell (p := ⟨B, 0, none⟩) hB _).setCell (p := ⟨B, 1, none⟩) hB _
theorem SI.out {w : World} {b : Option Addr} {n d : Nat} {ts : List Tok} {W : World} (h : SI w (.slice b n d) ts W) (p q : Value) :
    ((W.setCell ⟨w.heap.size, 0, none⟩ p).setCell ⟨w.heap.size, 1, none⟩ q).ownsRow (w.heap.size + 1) 55 3 (.slice b n d) ts.length (flatT ts) :=
  own_kept h.own fun c e => put2_other _ _ _ (by have := (own_ge h.own e).1; omega)
theorem res18 {tm : Array Value} {W : World} {B : Nat} {v : Value} {c a : Int} (h : tm[3]?.getD undef = .pointer (some ⟨B, 0, none⟩)) (h2 : tm[2]?.getD undef = v) (hx : W.heap[B]? = some (.cells #[.int .i64 c, .int .i64 a] 27)) : (results Tryz.f21 tm).run Tryz.prog W = .ok (.tuple #[v, .agg #[.int .i64 c, .int .i64 a]]) W := by
  have c0 : W.cell? ⟨B, 0, none⟩ = some (.int .i64 c) := cell_block hx rfl
  have c1 : W.cell? ⟨B, 1, none⟩ = some (.int .i64 a) := cell_block hx rfl
  simp [results, Tryz.results21, go_sem, h, h2, c0, c1]
structure In2 (W : World) (B : Nat) (c a : Value) : Prop where
  c0 : W.cell? ⟨B, 0, none⟩ = some c
  c1 : W.cell? ⟨B, 1, none⟩ = some a
  f0 : W.frozen? ⟨B, 0, none⟩ = false
  f1 : W.frozen? ⟨B, 1, none⟩ = false
theorem in2 {W : World} {B : Nat} {c a : Value} (h : W.heap[B]? = some (.cells #[c, a] 27)) : In2 W B c a := ⟨cell_block h rfl, cell_block h rfl, frozen_block h, frozen_block h⟩

theorem bad_ne {l : List UInt8} {e : Int} (h : tokR l = .bad e) : (e == 0) = false ∧ -1 < e ∧ e < 9 := by
  cases l with
  | nil => simp [tokR] at h; subst h; decide
  | cons c r =>
    unfold tokR at h
    simp only at h
    split at h
    · split at h <;> cases h
      decide
    split at h
    · split at h <;> cases h
      rename_i hz
      refine ⟨by simpa using hz, ?_⟩
      unfold numE
      split
      · decide
      · split
        · decide
        · split <;> decide
    split at h
    · split at h
      · split at h <;> cases h
        decide
      · cases h; decide
    split at h <;> cases h
    decide

set_option maxRecDepth 20000 in
set_option maxHeartbeats 2000000 in
theorem scan_big (s : ByteArray) (hs : 4000 < s.size) (w : World) : Calls Tryz.prog 21 #[.string s] w (Out w (.bad 1 0)) := by
  have hs' : (4000 : Int) < (s.size : Int) := by omega
  go_enter Tryz.func21, Tryz.ntmps21
  go_wp2
  exact bodyPost_ret (res18 rfl rfl (alloc_new _ _)) rfl ⟨⟨none, 0, 0, rfl, World.ownsRow_nil _ _ _ _⟩, ext_alloc (Below.refl _ _) _⟩

set_option maxRecDepth 20000 in
set_option maxHeartbeats 2000000 in
theorem scan_ok (s : ByteArray) (hs : s.size ≤ 4000) (w : World) (hE : ErrV w) : Calls Tryz.prog 21 #[.string s] w (Out w (scanR 0 s.data.toList)) := by
  obtain ⟨i0, hi0, hz0, hz1, hz2⟩ := info_parts info44
  have hs' : ¬ (4000 : Int) < (s.size : Int) := by omega
  obtain ⟨R, hR⟩ : ∃ R, scanR 0 s.data.toList = R := ⟨_, rfl⟩
  rw [hR]
  have hlen : s.data.toList.length = s.size := by simp
  have hS0 : SI w (.slice none 0 0) [] (w.alloc zeroF) := ⟨World.ownsRow_nil _ _ _ _, alloc_new _ _, ext_alloc (Below.refl _ _) _⟩
  have hg0 := gapN_le s.data.toList.length s.data.toList (Nat.le_refl _)
  have hg1 := scanR_gapN s.data.toList.length s.data.toList 0 (Nat.le_refl _)
  rw [hlen] at hg0
  rw [hR] at hg1
  replace hg0 : Hid _ := hg0
  replace hg1 : Hid _ := hg1
  replace hlen : Hid _ := hlen
  replace hE : Hid _ := hE
  have hG := fun u => gap_any s hs u
  go_enter Tryz.func21, Tryz.ntmps21
  go_wp2_with (go_at_call 36; refine (hG _).mono ?_; rintro e w1 ⟨rfl, hb1⟩; refine Hid.out ?_)
  replace hS0 := hS0.on hb1
  clear hb1 hG
  refine Lib.hid ?_
  go_wp2_with fail
  go_loopw [4, 5] (fun v i wr => ∃ (k : Nat) (b : Option Addr) (n d : Nat) (ts : List Tok), k ≤ s.size ∧ i = .int .i64 k ∧ v = .slice b n d ∧ SI w v ts wr ∧ gap1 (s.data.toList.drop k) = 0 ∧ R = ScanR.pre ts (scanR k (s.data.toList.drop k)) ∧ ts.length ≤ k) (fun _ i _ => s.size - (intOf i).toNat)
  case atStart => exact ⟨gapN s.data.toList, none, 0, 0, [], hg0.out.1, rfl, rfl, hS0, hg0.out.2, by rw [ScanR.pre_nil, hg1.out]; simp, Nat.zero_le _⟩
  case round =>
    clear hS0 hg0 hg1
    obtain ⟨k, b, n, d, ts, hk, rfl, rfl, hS, hgap, hRk, htl⟩ := hrel
    obtain ⟨c0, c1, f0, f1⟩ := in2 hS.r
    by_cases hlt : k < s.size
    · have hne : s.data.toList.drop k ≠ [] := by
        intro e
        have := congrArg List.length e
        simp at this
        omega
      have hC := first_any (s.extract k s.size) (by simp; omega) (by simp; omega) wr (ErrV.on hE.out hS.bl)
      rw [drop_list] at hC
      have hk' : (k : Int) < (s.size : Int) := by omega
      cases ht : tokR (s.data.toList.drop k) using TokR.byCases with
      | bad e =>
        have hRb : Hid (R = .bad e k) := hRk.trans (by rw [scanR_bad hne hgap ht]; rfl)
        obtain ⟨hne0, _, _⟩ := bad_ne ht
        rw [ht] at hC
        unfold outR at hC
        simp only at hC
        clear ht hRk hgap hne htl
        go_wp2_with (go_at_call 37; refine hC.mono ?_; rintro e w2 ⟨rfl, hb2⟩; have hr2 := block_below hb2 hS.r; have hlt2 := block_lt hr2; obtain ⟨c0, c1, f0, f1⟩ := in2 hr2)
        refine bodyPost_ret (res18 rfl rfl (block_alloc _ (put2_same hr2))) rfl ?_
        rw [hRb.out]
        exact ⟨⟨none, 0, 0, rfl, World.ownsRow_nil _ _ _ _⟩, ext_alloc (put2_below _ _ (ext_trans hS.bl hb2) (Nat.le_refl _)) _⟩
      | tok k1 t1 n1 =>
        have hsz := tok_size ht
        have hl1 : (s.data.toList.drop k).length = s.size - k := by simp
        rw [hl1] at hsz
        have hRt := scanR_tok hne hgap ht k
        rw [List.drop_drop] at hRt
        rw [hRt, ScanR.pre_pre] at hRk
        rw [ht] at hC
        unfold outR at hC
        simp only at hC
        have hn1 : ts.length + 1 ≤ maxLen := by unfold maxLen; omega
        have hb1 : (ts.length + 1) * 32 ≤ 140737488355328 := by omega
        replace hRk : Hid _ := hRk
        replace hl1 : Hid _ := hl1
        clear ht hgap hne hRt
        go_wp2_with (first | (go_at_call 37; refine hC.mono ?_; rintro e w2 ⟨rfl, hb2⟩; have hr2 := block_below hb2 hS.r; obtain ⟨c0, c1, f0, f1⟩ := in2 hr2) | (at_builtin; refine Hid.out ?_))
        clear c0 c1 f0 f1 hr2 hC
        obtain ⟨y, hy⟩ : ∃ y : Tok, y = ⟨k1, t1, k⟩ := ⟨_, rfl⟩
        obtain ⟨W, hW⟩ : ∃ W, (w2.alloc (tbx k1 ⟨t1.toArray⟩ k)).alloc (tbx k1 ⟨t1.toArray⟩ k) = W := ⟨_, rfl⟩
        have hnew : W.heap[w2.heap.size + 1]? = some (tbx y.k y.b (y.a : Nat)) := by
          subst hW hy
          have := alloc_new (w2.alloc (tbx k1 ⟨t1.toArray⟩ k)) (tbx k1 ⟨t1.toArray⟩ k)
          simp only [World.size_alloc] at this
          exact this
        have hSW : SI w (.slice b n d) ts W := by
          subst hW
          exact ((hS.on hb2).on (ext_alloc (Below.refl _ _) _)).on (ext_alloc (Below.refl _ _) _)
        have hszW : w.heap.size + 1 ≤ W.heap.size := block_lt hSW.r
        rw [hW]
        clear hW hb2 hS
        have hdd : k + n1 ≤ s.size := by omega
        have hG := fun u => gap_any (s.extract (k + n1) s.size) (by simp; omega) u
        rw [drop_list] at hG
        have hg0 := gapN_le _ (s.data.toList.drop (k + n1)) (Nat.le_refl _)
        have hg1 := scanR_gapN _ (s.data.toList.drop (k + n1)) (k + n1) (Nat.le_refl _)
        rw [List.drop_drop] at hg0 hg1
        rw [hg1, ← hy] at hRk
        have hg2 : gapN (s.data.toList.drop (k + n1)) ≤ s.size - (k + n1) := by
          have := hg0.1
          rw [List.length_drop, hlen.out] at this
          exact this
        obtain ⟨g1, hg1e⟩ : ∃ g1, gapN (s.data.toList.drop (k + n1)) = g1 := ⟨_, rfl⟩
        rw [hg1e] at hG hg0 hRk hg2
        have hg3 : Hid _ := hg0.2
        clear hg0 hg1 hg1e hy
        refine Lib.hid ?_
        go_wp2_with (first
          | (at_builtin; refine wpList_append_lies _ (by rfl) _ _ _ (by rfl) (w.heap.size + 1) 55 i0 _ 3 32 Tryz.underlying47 hi0 hz0 hz1 hz2 rfl (by omega) (.slice b n d) ts.length (flatT ts) (by rfl) hSW.own ⟨w2.heap.size + 1, 0, none⟩ 1 1 (trioT y) (by rfl) (by rfl) (newsT hnew) (by simp [Value.oneCell']) (by omega) hn1 hb1 hszW _ rfl ?_; intro g cap w5 hown1 hgrow hat1 hlt1; have hS5 := hSW.step hown1 hgrow; clear hown1 hgrow hat1 hlt1)
          | (go_at_call 36; refine (hG _).mono ?_; rintro e w6 ⟨rfl, hb6⟩))
        go_roundw
        case rel => exact ⟨k + n1 + g1, _, _, _, ts ++ [y], by omega, by go_num, rfl, hS5.on hb6, hg3.out, hRk.out, by simp; omega⟩
        case measure => simp [intOf]; omega
    · have hk' : ¬ (k : Int) < (s.size : Int) := by omega
      have hRe : Hid (R = .toks ts) := hRk.trans (by rw [List.drop_eq_nil_of_le (by rw [hlen.out]; omega), scanR_nil]; simp [ScanR.pre, ScanR.toks])
      clear hRk hgap
      go_wp2
      refine bodyPost_ret (res18 rfl rfl (put2_same hS.r)) rfl ?_
      rw [hRe.out]
      exact ⟨⟨b, n, d, rfl, hS.out _ _⟩, put2_below _ _ hS.bl (Nat.le_refl _)⟩
end Go.Proofs.YtnnppenlfocgiaaGreatDoor
