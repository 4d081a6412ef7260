/- Walks of package lex: a text between quotes. Walks of package lex: a word or a number. Walks of package lex: the token that a text begins with. -/
import Derived.Test.YtbofdfdmikhanaaGreatDoorJ14
namespace Go.Proofs.YtbofdfdmikhanaaGreatDoor
open Go.RowKit
open Go

theorem res50 {tm : Array Value} {W : World} {B : Nat} {k : Int} {t : ByteArray} {a : Int} {n e : Int} (h : tm[2]?.getD undef = .pointer (some ⟨B, 0, none⟩)) (h3 : tm[3]?.getD undef = .int .i64 n) (h4 : tm[4]?.getD undef = .int .i64 e) (hx : W.heap[B]? = some (tbx k t a)) : (results Tryz.f62 tm).run Tryz.prog W = .ok (.tuple #[tokv k t a, .int .i64 n, .int .i64 e]) W := by
  obtain ⟨c0, c1, c2, _, _, _⟩ := in3 hx
  simp [results, Tryz.results62, go_sem, h, h3, h4, c0, c1, c2]
theorem res49 {tm : Array Value} {W : World} {B : Nat} {k : Int} {t : ByteArray} {a : Int} {n e : Int} (h : tm[2]?.getD undef = .pointer (some ⟨B, 0, none⟩)) (h3 : tm[3]?.getD undef = .int .i64 n) (h4 : tm[4]?.getD undef = .int .i64 e) (hx : W.heap[B]? = some (tbx k t a)) : (results Tryz.f61 tm).run Tryz.prog W = .ok (.tuple #[tokv k t a, .int .i64 n, .int .i64 e]) W := by
  obtain ⟨c0, c1, c2, _, _, _⟩ := in3 hx
  simp [results, Tryz.results61, go_sem, h, h3, h4, c0, c1, c2]
theorem res36 {tm : Array Value} {W : World} {B : Nat} {k : Int} {t : ByteArray} {a : Int} {n e : Int} (h : tm[2]?.getD undef = .pointer (some ⟨B, 0, none⟩)) (h3 : tm[3]?.getD undef = .int .i64 n) (h4 : tm[4]?.getD undef = .int .i64 e) (hx : W.heap[B]? = some (tbx k t a)) : (results Tryz.f25 tm).run Tryz.prog W = .ok (.tuple #[tokv k t a, .int .i64 n, .int .i64 e]) W := by
  obtain ⟨c0, c1, c2, _, _, _⟩ := in3 hx
  simp [results, Tryz.results25, go_sem, h, h3, h4, c0, c1, c2]

theorem inSp_txt : inSp [(32, 33), (35, 126)] = txtB := by
  funext x
  simp only [inSp, txtB, List.any_cons, List.any_nil, Bool.or_false]
  rw [Bool.eq_iff_iff]
  simp
  omega
theorem inSp_row : inSp [(97, 122), (65, 90), (48, 57), (95, 95)] = rowB := by
  funext x
  simp only [inSp, rowB, letB, digB, List.any_cons, List.any_nil, Bool.or_false]
  rw [Bool.eq_iff_iff]
  simp
  omega
theorem inSp_dig : inSp [(48, 57)] = digB := by
  funext x
  simp only [inSp, digB, List.any_cons, List.any_nil, Bool.or_false]

theorem says_of {c : Nat} {sp : List (Nat × Nat)} {w : World} (h : Spans c sp w) (hl : sp.length ≤ 4) {p : UInt8 → Bool} (hp : inSp sp = p) : Says w 89 (.pointer (some ⟨c, 0, none⟩)) p := by
  subst hp
  exact fun x w1 h1 => within1_any c sp x w1 (h.below h1 (Nat.le_refl _)) hl

/-- What lies in memory when a closure over spans is made. -/
theorem span_mem (w : World) (sp : List (Nat × Nat)) (cs : Array Value) (n : Nat) (hn : sp.length = n) (hcs : ∀ i p, sp[i]? = some p → cs[i * 2]? = some (.int .u8 (p.1 : Nat)) ∧ cs[i * 2 + 1]? = some (.int .u8 (p.2 : Nat)))
    {W : World} (hW : ((w.alloc zeroTok).alloc (.cells cs 105)).alloc (.cells #[.slice (some ⟨w.heap.size + 1, 0, none⟩) n n] 124) = W) :
    W.heap[w.heap.size]? = some zeroTok ∧ Below w.heap.size w W ∧ Spans (w.heap.size + 1 + 1) sp W := by
  subst hW
  refine ⟨block_alloc _ (block_alloc _ (alloc_new _ _)), ext_alloc (ext_alloc (ext_alloc (Below.refl _ _) _) _) _, w.heap.size + 1, ?_, fun i p hp => ?_⟩
  · have := alloc_new ((w.alloc zeroTok).alloc (.cells cs 105)) (.cells #[.slice (some ⟨w.heap.size + 1, 0, none⟩) n n] 124)
    simp only [World.size_alloc] at this
    rw [hn]
    exact cell_block this rfl
  · have := block_alloc (.cells #[.slice (some ⟨w.heap.size + 1, 0, none⟩) n n] 124) (alloc_new (w.alloc zeroTok) (.cells cs 105))
    simp only [World.size_alloc] at this
    exact ⟨cell_block this (hcs i p hp).1, cell_block this (hcs i p hp).2⟩
theorem cs_txt : ∀ i p, [((32 : Nat), (33 : Nat)), (35, 126)][i]? = some p → (#[.int .u8 32, .int .u8 33, .int .u8 35, .int .u8 126] : Array Value)[i * 2]? = some (.int .u8 (p.1 : Nat)) ∧ (#[.int .u8 32, .int .u8 33, .int .u8 35, .int .u8 126] : Array Value)[i * 2 + 1]? = some (.int .u8 (p.2 : Nat))
  | 0, p, h => by cases h; exact ⟨rfl, rfl⟩
  | 1, p, h => by cases h; exact ⟨rfl, rfl⟩
  | n + 2, p, h => by simp at h
theorem cs_dig : ∀ i p, [((48 : Nat), (57 : Nat))][i]? = some p → (#[.int .u8 48, .int .u8 57] : Array Value)[i * 2]? = some (.int .u8 (p.1 : Nat)) ∧ (#[.int .u8 48, .int .u8 57] : Array Value)[i * 2 + 1]? = some (.int .u8 (p.2 : Nat))
  | 0, p, h => by cases h; exact ⟨rfl, rfl⟩
  | n + 1, p, h => by simp at h
theorem cs_row : ∀ i p, [((97 : Nat), (122 : Nat)), (65, 90), (48, 57), (95, 95)][i]? = some p → (#[.int .u8 97, .int .u8 122, .int .u8 65, .int .u8 90, .int .u8 48, .int .u8 57, .int .u8 95, .int .u8 95] : Array Value)[i * 2]? = some (.int .u8 (p.1 : Nat)) ∧ (#[.int .u8 97, .int .u8 122, .int .u8 65, .int .u8 90, .int .u8 48, .int .u8 57, .int .u8 95, .int .u8 95] : Array Value)[i * 2 + 1]? = some (.int .u8 (p.2 : Nat))
  | 0, p, h => by cases h; exact ⟨rfl, rfl⟩
  | 1, p, h => by cases h; exact ⟨rfl, rfl⟩
  | 2, p, h => by cases h; exact ⟨rfl, rfl⟩
  | 3, p, h => by cases h; exact ⟨rfl, rfl⟩
  | n + 4, p, h => by simp at h

def quotV (r : List UInt8) : Value := if r[runN txtB r]? = some 34 then (if 300 < runN txtB r then outV 0 ⟨#[]⟩ 0 1 else outV 3 ⟨(r.take (runN txtB r)).toArray⟩ (runN txtB r + 2) 0) else outV 0 ⟨#[]⟩ 0 2
theorem quotV_none {r : List UInt8} (h : r[runN txtB r]? ≠ some 34) : quotV r = outV 0 ⟨#[]⟩ 0 2 := by unfold quotV; rw [if_neg h]
theorem quotV_long {r : List UInt8} (h : r[runN txtB r]? = some 34) (k : 300 < runN txtB r) : quotV r = outV 0 ⟨#[]⟩ 0 1 := by unfold quotV; rw [if_pos h, if_pos k]
theorem quotV_ok {r : List UInt8} (h : r[runN txtB r]? = some 34) (k : ¬ 300 < runN txtB r) : quotV r = outV 3 ⟨(r.take (runN txtB r)).toArray⟩ (runN txtB r + 2) 0 := by unfold quotV; rw [if_pos h, if_neg k]

theorem byte_at {R : ByteArray} {n : Nat} (h : n < R.size) : R.data.toList[n]? = some R[n] := by
  rw [List.getElem?_eq_getElem (by simpa using h)]; rfl

set_option maxRecDepth 20000 in
set_option maxHeartbeats 2000000 in
theorem quoted_any (s : ByteArray) (hs : s.size ≤ 4000) (h0 : 0 < s.size) (w : World) :
    Calls Tryz.prog 62 #[.string s] w fun e w' => e = .returned (quotV (s.data.toList.drop 1)) ∧ Below w.heap.size w w' := by
  have h1' : (1 : Int) ≤ (s.size : Int) := by omega
  have hW := fun v u h => within_any v u h
  rw [← drop_list s 1]
  obtain ⟨V, hV⟩ : ∃ V, quotV (s.extract 1 s.size).data.toList = V := ⟨_, rfl⟩
  rw [hV]
  replace hV : Hid _ := hV
  go_enter Tryz.func62, Tryz.ntmps62
  go_wp2_with (first | (go_at_call 60; refine (hW _ _ ⟨_, _, _, rfl⟩).mono ?_; rintro e w' ⟨rfl, rfl⟩) | (go_at_call 59; refine Hid.out ?_))
  have hz : (s.extract 1 s.size).size ≤ 4000 := by simp; omega
  obtain ⟨R, hR⟩ : ∃ R, s.extract 1 s.size = R := ⟨_, rfl⟩
  obtain ⟨W, hWW⟩ : ∃ W, ((w.alloc zeroTok).alloc (.cells #[.int .u8 32, .int .u8 33, .int .u8 35, .int .u8 126] 105)).alloc (.cells #[.slice (some ⟨w.heap.size + 1, 0, none⟩) 2 2] 124) = W := ⟨_, rfl⟩
  obtain ⟨hr, hb, hsp⟩ := span_mem w [(32, 33), (35, 126)] _ 2 rfl cs_txt hWW
  rw [hR] at hz hV ⊢
  rw [hWW]
  have hrun := run_67 R hz _ txtB W (says_of hsp (by decide) inSp_txt)
  have hle := runN_le txtB R.data.toList
  have hle2 : runN txtB R.data.toList ≤ R.size := by simpa using hle
  clear hWW hR hW hsp hle h1' h0 hs
  have hq1 := quotV_none (r := R.data.toList)
  have hq2 := quotV_long (r := R.data.toList)
  have hq3 := quotV_ok (r := R.data.toList)
  rw [← take_list] at hq3
  obtain ⟨n, hn⟩ : ∃ n, runN txtB R.data.toList = n := ⟨_, rfl⟩
  rw [hn] at hrun hle2 hq1 hq2 hq3
  rw [ba_list] at hq3
  clear hn
  rw [hV.out] at hq1 hq2 hq3
  clear hV
  have hqq : Hid _ := And.intro hq1 (And.intro hq2 hq3)
  clear hq1 hq2 hq3
  have hM := fun u => made_any 3 (R.extract 0 n) (by simp; omega) u
  refine hrun.mono ?_
  rintro e w2 ⟨rfl, hb2⟩
  clear hrun
  have hr2 := block_below hb2 hr
  have hbb := ext_trans hb hb2
  clear hb hr hb2
  obtain ⟨c0, c1, c2, f0, f1, f2⟩ := in3 hr2
  by_cases he : n = R.size
  · have hx : ((n : Int) == (R.size : Int)) = true := by simp [he]
    have hE : Hid (V = outV 0 ⟨#[]⟩ 0 2) := hqq.out.1 (by rw [List.getElem?_eq_none (by simp; omega)]; simp)
    clear he hqq
    refine Lib.hid ?_
    go_wp2
    exact bodyPost_ret (res50 rfl rfl rfl (put3_same _ _ _ hr2)) rfl ⟨congrArg _ hE.out.symm, put3_below _ _ _ hbb (Nat.le_refl _)⟩
  · have hlt : n < R.size := by omega
    have hx : ((n : Int) == (R.size : Int)) = false := by simp; omega
    have hby := byte_at hlt
    by_cases hc : R[n].toNat = 34
    · have hc1 : R[n] = 34 := UInt8.toNat_inj.1 hc
      have hx2 : ((R[n].toNat : Int) == 34) = true := by simp [hc]
      rw [hc1] at hby
      by_cases hn3 : 300 < n
      · have hE : Hid (V = outV 0 ⟨#[]⟩ 0 1) := hqq.out.2.1 hby hn3
        have hi3 : (300 : Int) < (n : Int) := by omega
        clear hqq hby hc hc1 he
        refine Lib.hid ?_
        go_wp2
        exact bodyPost_ret (res50 rfl rfl rfl (put3_same _ _ _ hr2)) rfl ⟨congrArg _ hE.out.symm, put3_below _ _ _ hbb (Nat.le_refl _)⟩
      · have hE : Hid (V = outV 3 (R.extract 0 n) (n + 2) 0) := hqq.out.2.2 hby hn3
        have hi3 : ¬ (300 : Int) < (n : Int) := by omega
        clear hqq hby hc hc1 he
        refine Lib.hid ?_
        go_wp2_with (go_at_call 90; refine (hM _).mono ?_; rintro e w3 ⟨rfl, hb3⟩; have hr3 := block_below hb3 hr2; obtain ⟨c0, c1, c2, f0, f1, f2⟩ := in3 hr3)
        exact bodyPost_ret (res50 rfl rfl rfl (put3_same _ _ _ hr3)) rfl ⟨congrArg _ (hE.out.trans (by simp)).symm, put3_below _ _ _ (ext_trans hbb hb3) (Nat.le_refl _)⟩
    · have hx2 : ((R[n].toNat : Int) == 34) = false := by simp; omega
      have hE : Hid (V = outV 0 ⟨#[]⟩ 0 2) := hqq.out.1 (by rw [hby]; intro e; apply hc; injection e with e; rw [e]; rfl)
      clear hqq hby hc he
      refine Lib.hid ?_
      go_wp2
      exact bodyPost_ret (res50 rfl rfl rfl (put3_same _ _ _ hr2)) rfl ⟨congrArg _ hE.out.symm, put3_below _ _ _ hbb (Nat.le_refl _)⟩
end Go.Proofs.YtbofdfdmikhanaaGreatDoor
namespace Go.Proofs.YtbofdfdmikhanaaGreatDoor
open Go.RowKit
open Go

/-- The library's variable holds an error, or nil. -/
def ErrV (w : World) : Prop := ∃ ev, w.cell? ⟨4, 0, none⟩ = some ev ∧ (ev = .nilIface ∨ ∃ te pe, ev = .iface te pe)
theorem ErrV.on {w w' : World} (h : ErrV w) (hb : Below w.heap.size w w') : ErrV w' := by
  obtain ⟨ev, h1, h2⟩ := h
  exact ⟨ev, (hb.cell (p := ⟨4, 0, none⟩) (World.block_lt_of_cell? _ _ h1)).trans h1, h2⟩

def wnV (l : List UInt8) : Value :=
  if (l.head?.map digB).getD false = false then (if 16 < l.length then outV 0 ⟨#[]⟩ 0 1 else outV 1 ⟨l.toArray⟩ l.length 0)
  else if numE l = 0 then outV 2 ⟨l.toArray⟩ l.length 0 else outV 0 ⟨#[]⟩ 0 (numE l)

theorem allRunB (p : UInt8 → Bool) : ∀ l : List UInt8, l.all p = decide (l.length ≤ runN p l)
  | [] => by simp [runN]
  | c :: r => by
    have := runN_le p r
    rw [List.all_cons, allRunB p r, runN]
    cases p c
    · simp
    · simp

theorem parse_ok (s : ByteArray) (hs : s.size ≤ 4000) (v : Int) (h : Lib.parseIntB 64 s.data.toList = .ok v) (w : World) :
    Calls Tryz.prog 91 #[.string s, .int .i64 10, .int .i64 64] w fun e w' => e = .returned (.tuple #[.int .i64 v, .nilIface]) ∧ Below w.heap.size w w' := by
  refine (Tryz.strconv_ParseInt_10_at64_ok s (by omega) v h w).mono ?_
  rintro e w' ⟨rfl, hW⟩
  refine ⟨rfl, ?_⟩
  rcases hW with rfl | ⟨t, rfl⟩
  · exact Below.refl _ _
  · exact Lib.bytesWorld_below _ _ _
theorem parse_range (s : ByteArray) (hs : s.size ≤ 4000) (h : Lib.parseIntB 64 s.data.toList = .range) (w : World) (hv : ErrV w) :
    Calls Tryz.prog 91 #[.string s, .int .i64 10, .int .i64 64] w fun e w' => ∃ v N, e = .returned (.tuple #[.int .i64 v, .iface 167 (.pointer (some ⟨N, 0, none⟩))]) ∧ Below w.heap.size w w' := by
  obtain ⟨ev, h1, h2⟩ := hv
  refine (Tryz.strconv_ParseInt_10_at64_range s (by omega) h ev w h1 h2).mono ?_
  rintro e w' ⟨N, rfl, _, _, hb⟩
  exact ⟨_, N, rfl, hb⟩

/-- What a row of letters and digits meets. -/
theorem wn_cases (c : UInt8) (r : List UInt8) :
    (digB c = false ∧ 16 < (c :: r).length ∧ wnV (c :: r) = outV 0 ⟨#[]⟩ 0 1) ∨
    (digB c = false ∧ ¬ 16 < (c :: r).length ∧ wnV (c :: r) = outV 1 ⟨(c :: r).toArray⟩ (c :: r).length 0) ∨
    (digB c = true ∧ runN digB (c :: r) < (c :: r).length ∧ wnV (c :: r) = outV 0 ⟨#[]⟩ 0 2) ∨
    (digB c = true ∧ ¬ runN digB (c :: r) < (c :: r).length ∧ c = 48 ∧ 1 < (c :: r).length ∧ wnV (c :: r) = outV 0 ⟨#[]⟩ 0 2) ∨
    (digB c = true ∧ ¬ runN digB (c :: r) < (c :: r).length ∧ ¬ (c = 48 ∧ 1 < (c :: r).length) ∧ Lib.parseIntB 64 (c :: r) = .range ∧ wnV (c :: r) = outV 0 ⟨#[]⟩ 0 6) ∨
    (digB c = true ∧ ¬ runN digB (c :: r) < (c :: r).length ∧ ¬ (c = 48 ∧ 1 < (c :: r).length) ∧ Lib.parseIntB 64 (c :: r) = .ok (numV (c :: r) : Int) ∧ wnV (c :: r) = outV 2 ⟨(c :: r).toArray⟩ (c :: r).length 0) := by
  have hall := allRunB digB (c :: r)
  have hle := runN_le digB (c :: r)
  have hh : (((c :: r).head?.map digB).getD false) = digB c := rfl
  unfold wnV
  rw [hh]
  cases hc : digB c
  · by_cases h : 16 < (c :: r).length
    · left; exact ⟨rfl, h, by rw [if_pos rfl, if_pos h]⟩
    · right; left; exact ⟨rfl, h, by rw [if_pos rfl, if_neg h]⟩
  right; right
  by_cases h1 : runN digB (c :: r) < (c :: r).length
  · left
    have : numE (c :: r) = 2 := by unfold numE; rw [hall, if_pos (by simp only [decide_eq_false_iff_not]; omega)]
    exact ⟨rfl, h1, by rw [if_neg (by simp), this]; rfl⟩
  right
  have ha : (c :: r).all digB = true := by rw [hall]; simp only [decide_eq_true_eq]; omega
  by_cases h2 : c = 48 ∧ 1 < (c :: r).length
  · left
    have : numE (c :: r) = 2 := by unfold numE; rw [ha, if_neg (by simp), if_pos ⟨h2.2, by rw [h2.1]; rfl⟩]
    exact ⟨rfl, h1, h2.1, h2.2, by rw [if_neg (by simp), this]; rfl⟩
  right
  have hp := parse_digits (c :: r) (by simp) ha
  have h2' : ¬ (1 < (c :: r).length ∧ (c :: r).head? = some 48) := fun h => h2 ⟨by simpa using h.2, h.1⟩
  by_cases h3 : 9223372036854775807 < numV (c :: r)
  · left
    have : numE (c :: r) = 6 := by unfold numE; rw [ha, if_neg (by simp), if_neg h2', if_pos h3]
    exact ⟨rfl, h1, h2, by rw [hp, if_pos h3], by rw [if_neg (by simp), this]; rfl⟩
  · right
    have : numE (c :: r) = 0 := by unfold numE; rw [ha, if_neg (by simp), if_neg h2', if_neg h3]
    exact ⟨rfl, h1, h2, by rw [hp, if_neg h3], by rw [if_neg (by simp), this]; rfl⟩

set_option maxRecDepth 20000 in
set_option maxHeartbeats 2000000 in
theorem wn_any (s : ByteArray) (hs : s.size ≤ 4000) (h0 : 0 < s.size) (w : World) (hE : ErrV w) :
    Calls Tryz.prog 61 #[.string s] w fun e w' => e = .returned (wnV s.data.toList) ∧ Below w.heap.size w w' := by
  have h0' : (0 : Int) < (s.size : Int) := by omega
  have hW := fun v u h => within_any v u h
  obtain ⟨V, hV⟩ : ∃ V, wnV s.data.toList = V := ⟨_, rfl⟩
  rw [hV]
  replace hV : Hid _ := hV
  replace hE : Hid _ := hE
  go_enter Tryz.func61, Tryz.ntmps61
  go_wp2_with (first | (go_at_call 60; refine (hW _ _ ⟨_, _, _, rfl⟩).mono ?_; rintro e w' ⟨rfl, rfl⟩) | (go_at_call 89; refine Hid.out ?_))
  obtain ⟨W, hWW⟩ : ∃ W, ((w.alloc zeroTok).alloc (.cells #[.int .u8 48, .int .u8 57] 105)).alloc (.cells #[.slice (some ⟨w.heap.size + 1, 0, none⟩) 1 1] 124) = W := ⟨_, rfl⟩
  obtain ⟨hr, hb, hsp⟩ := span_mem w [(48, 57)] _ 1 rfl cs_dig hWW
  rw [hWW]
  have hsay := says_of hsp (by decide) inSp_dig
  have hask := hsay s[0] W (Below.refl _ _)
  obtain ⟨c, r, hl, hc, _⟩ := list_cons s h0
  have hC := wn_cases c r
  rw [← hl, hV.out] at hC
  have hlen : s.data.toList.length = s.size := by simp
  have hba := ba_list s
  rw [hlen, hba] at hC
  have hM1 := fun u => made_any 1 s hs u
  have hM2 := fun u => made_any 2 s hs u
  clear hWW hW hsp hV hlen hba hl
  rw [← hc] at hC
  clear hc
  refine hask.mono ?_
  rintro e w2 ⟨rfl, hb2⟩
  clear hask
  have hr2 := block_below hb2 hr
  have hbb := ext_trans hb hb2
  have hsay2 := hsay.on hb2
  have hE2 : ErrV w2 := ErrV.on (ErrV.on hE.out hb) hb2
  clear hb hr hb2 hE hsay
  obtain ⟨c0, c1, c2, f0, f1, f2⟩ := in3 hr2
  have hrun := run_67 s hs _ digB w2 hsay2
  clear hsay2
  rcases hC with ⟨e1, e2, e3⟩ | ⟨e1, e2, e3⟩ | ⟨e1, e2, e3⟩ | ⟨e1, e2, e3, e4, e5⟩ | ⟨e1, e2, e3, e4, e5⟩ | ⟨e1, e2, e3, e4, e5⟩
  · have e2' : (16 : Int) < (s.size : Int) := by omega
    replace e3 : Hid _ := e3
    rw [e1]
    refine Lib.hid ?_
    go_wp2
    exact bodyPost_ret (res49 rfl rfl rfl (put3_same _ _ _ hr2)) rfl ⟨congrArg _ e3.out.symm, put3_below _ _ _ hbb (Nat.le_refl _)⟩
  · have e2' : ¬ (16 : Int) < (s.size : Int) := by omega
    replace e3 : Hid _ := e3
    rw [e1]
    refine Lib.hid ?_
    go_wp2_with (go_at_call 90; refine (hM1 _).mono ?_; rintro e w3 ⟨rfl, hb3⟩; have hr3 := block_below hb3 hr2; obtain ⟨c0, c1, c2, f0, f1, f2⟩ := in3 hr3)
    exact bodyPost_ret (res49 rfl rfl rfl (put3_same _ _ _ hr3)) rfl ⟨congrArg _ e3.out.symm, put3_below _ _ _ (ext_trans hbb hb3) (Nat.le_refl _)⟩
  · obtain ⟨n, hn⟩ : ∃ n, runN digB s.data.toList = n := ⟨_, rfl⟩
    rw [hn] at e2 hrun
    have e2' : (n : Int) < (s.size : Int) := by omega
    clear hn e2
    replace e3 : Hid _ := e3
    rw [e1]
    refine Lib.hid ?_
    go_wp2_with (go_at_call 59; refine hrun.mono ?_; rintro e w3 ⟨rfl, hb3⟩; have hr3 := block_below hb3 hr2; obtain ⟨c0, c1, c2, f0, f1, f2⟩ := in3 hr3)
    exact bodyPost_ret (res49 rfl rfl rfl (put3_same _ _ _ hr3)) rfl ⟨congrArg _ e3.out.symm, put3_below _ _ _ (ext_trans hbb hb3) (Nat.le_refl _)⟩
  · obtain ⟨n, hn⟩ : ∃ n, runN digB s.data.toList = n := ⟨_, rfl⟩
    rw [hn] at e2 hrun
    have e2' : ¬ (n : Int) < (s.size : Int) := by omega
    have e3' : ((s[0].toNat : Int) == 48) = true := by rw [e3]; rfl
    have e4' : (1 : Int) < (s.size : Int) := by omega
    clear hn e2 e3 e4
    replace e5 : Hid _ := e5
    rw [e1]
    refine Lib.hid ?_
    go_wp2_with (go_at_call 59; refine hrun.mono ?_; rintro e w3 ⟨rfl, hb3⟩; have hr3 := block_below hb3 hr2; obtain ⟨c0, c1, c2, f0, f1, f2⟩ := in3 hr3)
    exact bodyPost_ret (res49 rfl rfl rfl (put3_same _ _ _ hr3)) rfl ⟨congrArg _ e5.out.symm, put3_below _ _ _ (ext_trans hbb hb3) (Nat.le_refl _)⟩
  · obtain ⟨n, hn⟩ : ∃ n, runN digB s.data.toList = n := ⟨_, rfl⟩
    rw [hn] at e2 hrun
    have e2' : ¬ (n : Int) < (s.size : Int) := by omega
    clear hn e2
    replace e5 : Hid _ := e5
    replace hE2 : Hid _ := hE2
    have hP := fun u hu => parse_range s hs e4 u hu
    clear e4
    by_cases k : s[0] = 48
    · have k1 : ((s[0].toNat : Int) == 48) = true := by rw [k]; rfl
      have k2 : ¬ (1 : Int) < (s.size : Int) := fun h => e3 ⟨k, by omega⟩
      clear k e3
      rw [e1]
      refine Lib.hid ?_
      go_wp2_with (first | (go_at_call 59; refine hrun.mono ?_; rintro e w3 ⟨rfl, hb3⟩; have hr3 := block_below hb3 hr2) | (go_at_call 91; refine (hP _ (ErrV.on hE2.out hb3)).mono ?_; rintro e w4 ⟨v4, N4, rfl, hb4⟩; have hr4 := block_below hb4 hr3; obtain ⟨c0, c1, c2, f0, f1, f2⟩ := in3 hr4))
      exact bodyPost_ret (res49 rfl rfl rfl (put3_same _ _ _ hr4)) rfl ⟨congrArg _ e5.out.symm, put3_below _ _ _ (ext_trans (ext_trans hbb hb3) hb4) (Nat.le_refl _)⟩
    · have k1 : ((s[0].toNat : Int) == 48) = false := by
        have : s[0].toNat ≠ 48 := fun e => k (UInt8.toNat_inj.1 e)
        simp; omega
      clear k e3
      rw [e1]
      refine Lib.hid ?_
      go_wp2_with (first | (go_at_call 59; refine hrun.mono ?_; rintro e w3 ⟨rfl, hb3⟩; have hr3 := block_below hb3 hr2) | (go_at_call 91; refine (hP _ (ErrV.on hE2.out hb3)).mono ?_; rintro e w4 ⟨v4, N4, rfl, hb4⟩; have hr4 := block_below hb4 hr3; obtain ⟨c0, c1, c2, f0, f1, f2⟩ := in3 hr4))
      exact bodyPost_ret (res49 rfl rfl rfl (put3_same _ _ _ hr4)) rfl ⟨congrArg _ e5.out.symm, put3_below _ _ _ (ext_trans (ext_trans hbb hb3) hb4) (Nat.le_refl _)⟩
  · obtain ⟨n, hn⟩ : ∃ n, runN digB s.data.toList = n := ⟨_, rfl⟩
    rw [hn] at e2 hrun
    have e2' : ¬ (n : Int) < (s.size : Int) := by omega
    clear hn e2
    replace e5 : Hid _ := e5
    replace hE2 : Hid _ := hE2
    have hP := fun u => parse_ok s hs _ e4 u
    clear e4
    by_cases k : s[0] = 48
    · have k1 : ((s[0].toNat : Int) == 48) = true := by rw [k]; rfl
      have k2 : ¬ (1 : Int) < (s.size : Int) := fun h => e3 ⟨k, by omega⟩
      clear k e3
      rw [e1]
      refine Lib.hid ?_
      go_wp2_with (first | (go_at_call 59; refine hrun.mono ?_; rintro e w3 ⟨rfl, hb3⟩; have hr3 := block_below hb3 hr2) | (go_at_call 91; refine (hP _).mono ?_; rintro e w4 ⟨rfl, hb4⟩; have hr4 := block_below hb4 hr3) | (go_at_call 90; refine (hM2 _).mono ?_; rintro e w5 ⟨rfl, hb5⟩; have hr5 := block_below hb5 hr4; obtain ⟨c0, c1, c2, f0, f1, f2⟩ := in3 hr5))
      exact bodyPost_ret (res49 rfl rfl rfl (put3_same _ _ _ hr5)) rfl ⟨congrArg _ e5.out.symm, put3_below _ _ _ (ext_trans (ext_trans (ext_trans hbb hb3) hb4) hb5) (Nat.le_refl _)⟩
    · have k1 : ((s[0].toNat : Int) == 48) = false := by
        have : s[0].toNat ≠ 48 := fun e => k (UInt8.toNat_inj.1 e)
        simp; omega
      clear k e3
      rw [e1]
      refine Lib.hid ?_
      go_wp2_with (first | (go_at_call 59; refine hrun.mono ?_; rintro e w3 ⟨rfl, hb3⟩; have hr3 := block_below hb3 hr2) | (go_at_call 91; refine (hP _).mono ?_; rintro e w4 ⟨rfl, hb4⟩; have hr4 := block_below hb4 hr3) | (go_at_call 90; refine (hM2 _).mono ?_; rintro e w5 ⟨rfl, hb5⟩; have hr5 := block_below hb5 hr4; obtain ⟨c0, c1, c2, f0, f1, f2⟩ := in3 hr5))
      exact bodyPost_ret (res49 rfl rfl rfl (put3_same _ _ _ hr5)) rfl ⟨congrArg _ e5.out.symm, put3_below _ _ _ (ext_trans (ext_trans (ext_trans hbb hb3) hb4) hb5) (Nat.le_refl _)⟩
end Go.Proofs.YtbofdfdmikhanaaGreatDoor
namespace Go.Proofs.YtbofdfdmikhanaaGreatDoor
open Go.RowKit
open Go

theorem wn_form (l : List UInt8) : ∃ k t n e, wnV l = outV k t n e := by
  unfold wnV
  split
  · split <;> exact ⟨_, _, _, _, rfl⟩
  · split <;> exact ⟨_, _, _, _, rfl⟩
theorem quot_form (l : List UInt8) : ∃ k t n e, quotV l = outV k t n e := by
  unfold quotV
  split
  · split <;> exact ⟨_, _, _, _, rfl⟩
  · exact ⟨_, _, _, _, rfl⟩
theorem sign_form (l : List UInt8) : ∃ k t n e, signV l = outV k t n e := by
  unfold signV
  split <;> exact ⟨_, _, _, _, rfl⟩

theorem let_not_dig {c : UInt8} (h : letB c = true) : digB c = false := by
  simp [letB] at h
  simp [digB]
  omega
theorem first_row (c : UInt8) (r : List UInt8) (h : 0 < runN rowB (c :: r)) : outR (tokR (c :: r)) = wnV ((c :: r).take (runN rowB (c :: r))) := by
  have hle := runN_le rowB (c :: r)
  obtain ⟨n, hn⟩ : ∃ n, runN rowB (c :: r) = n + 1 := ⟨runN rowB (c :: r) - 1, by omega⟩
  have hc : rowB c = true := by
    cases h' : rowB c
    · simp [runN, h'] at h
    · rfl
  have hh : (((c :: r).take (n + 1)).head?.map digB).getD false = digB c := by simp
  have hlen : ((c :: r).take (n + 1)).length = n + 1 := by rw [List.length_take]; omega
  unfold tokR wnV
  simp only
  rw [hn, hh, hlen]
  by_cases hl : letB c = true
  · rw [if_pos hl, let_not_dig hl, if_pos rfl]
    split <;> rfl
  · have hd : digB c = true := by
      simp only [rowB, Bool.or_eq_true] at hc
      exact hc.resolve_left hl
    rw [if_neg hl, if_pos hd, hd, if_neg (show ¬ (true = false) by decide)]
    split <;> rfl
theorem first_not (c : UInt8) (r : List UInt8) (h : ¬ 0 < runN rowB (c :: r)) : letB c = false ∧ digB c = false := by
  have hc : rowB c = false := by
    cases h' : rowB c
    · rfl
    · simp [runN, h'] at h
  simpa [rowB] using hc
theorem first_quot (c : UInt8) (r : List UInt8) (h : ¬ 0 < runN rowB (c :: r)) (hc : c.toNat = 34) : outR (tokR (c :: r)) = quotV ((c :: r).drop 1) := by
  obtain ⟨h1, h2⟩ := first_not c r h
  unfold tokR quotV
  simp only
  rw [if_neg (by simp [h1]), if_neg (by simp [h2]), if_pos hc]
  simp only [List.drop_succ_cons, List.drop_zero]
  split
  · split <;> rfl
  · rfl
theorem first_sign (c : UInt8) (r : List UInt8) (h : ¬ 0 < runN rowB (c :: r)) (hc : ¬ c.toNat = 34) : outR (tokR (c :: r)) = signV (c :: r) := by
  obtain ⟨h1, h2⟩ := first_not c r h
  unfold tokR signV
  simp only
  rw [if_neg (by simp [h1]), if_neg (by simp [h2]), if_neg hc]
  split <;> rfl

set_option maxRecDepth 20000 in
set_option maxHeartbeats 2000000 in
theorem first_any (s : ByteArray) (hs : s.size ≤ 4000) (h0 : 0 < s.size) (w : World) (hE : ErrV w) :
    Calls Tryz.prog 25 #[.string s] w fun e w' => e = .returned (outR (tokR s.data.toList)) ∧ Below w.heap.size w w' := by
  have h0' : (0 : Int) < (s.size : Int) := by omega
  have hW := fun v u h => within_any v u h
  obtain ⟨V, hV⟩ : ∃ V, outR (tokR s.data.toList) = V := ⟨_, rfl⟩
  rw [hV]
  replace hV : Hid _ := hV
  replace hE : Hid _ := hE
  go_enter Tryz.func25, Tryz.ntmps25
  go_wp2_with (first | (go_at_call 60; refine (hW _ _ ⟨_, _, _, rfl⟩).mono ?_; rintro e w' ⟨rfl, rfl⟩) | (go_at_call 59; refine Hid.out ?_))
  obtain ⟨W, hWW⟩ : ∃ W, ((w.alloc zeroTok).alloc (.cells #[.int .u8 97, .int .u8 122, .int .u8 65, .int .u8 90, .int .u8 48, .int .u8 57, .int .u8 95, .int .u8 95] 105)).alloc (.cells #[.slice (some ⟨w.heap.size + 1, 0, none⟩) 4 4] 124) = W := ⟨_, rfl⟩
  obtain ⟨hr, hb, hsp⟩ := span_mem w [(97, 122), (65, 90), (48, 57), (95, 95)] _ 4 rfl cs_row hWW
  rw [hWW]
  have hrun := run_67 s hs _ rowB W (says_of hsp (by decide) inSp_row)
  have hle := runN_le rowB s.data.toList
  have hle2 : runN rowB s.data.toList ≤ s.size := by simpa using hle
  obtain ⟨c, r, hl, hc, _⟩ := list_cons s h0
  have q1 := first_row c r
  have q2 := first_quot c r
  have q3 := first_sign c r
  rw [← hl, hV.out] at q1 q2 q3
  rw [← hc] at q2 q3
  rw [← take_list] at q1
  obtain ⟨n, hn⟩ : ∃ n, runN rowB s.data.toList = n := ⟨_, rfl⟩
  rw [hn] at hrun hle2 q1 q2 q3
  clear hWW hW hsp hle hV hl hc hn
  have hq : Hid _ := And.intro q1 (And.intro q2 q3)
  clear q1 q2 q3
  refine hrun.mono ?_
  rintro e w2 ⟨rfl, hb2⟩
  clear hrun
  have hr2 := block_below hb2 hr
  have hbb := ext_trans hb hb2
  have hE2 : ErrV w2 := ErrV.on (ErrV.on hE.out hb) hb2
  clear hb hr hb2 hE
  by_cases hn0 : 0 < n
  · have hq1 := hq.out.1 hn0
    have hx : (0 : Int) < (n : Int) := by omega
    have hC := wn_any (s.extract 0 n) (by simp; omega) (by simp; omega) w2 hE2
    obtain ⟨k1, t1, n1, e1, hf⟩ := wn_form (s.extract 0 n).data.toList
    rw [hf] at hC hq1
    clear hf hq hE2
    subst hq1
    refine Lib.hid ?_
    go_wp2_with (go_at_call 61; refine hC.mono ?_; rintro e w3 ⟨rfl, hb3⟩; have hr3 := block_below hb3 hr2; obtain ⟨c0, c1, c2, f0, f1, f2⟩ := in3 hr3)
    exact bodyPost_ret (res36 rfl rfl rfl (put3_same _ _ _ hr3)) rfl ⟨rfl, put3_below _ _ _ (ext_trans hbb hb3) (Nat.le_refl _)⟩
  · have hx : ¬ (0 : Int) < (n : Int) := by omega
    by_cases hc : s[0].toNat = 34
    · have hx2 : ((s[0].toNat : Int) == 34) = true := by simp [hc]
      have hq1 := hq.out.2.1 hn0 hc
      have hC := quoted_any s hs h0 w2
      obtain ⟨k1, t1, n1, e1, hf⟩ := quot_form (s.data.toList.drop 1)
      rw [hf] at hC hq1
      clear hf hq hE2 hc hn0
      subst hq1
      refine Lib.hid ?_
      go_wp2_with (go_at_call 62; refine hC.mono ?_; rintro e w3 ⟨rfl, hb3⟩; have hr3 := block_below hb3 hr2; obtain ⟨c0, c1, c2, f0, f1, f2⟩ := in3 hr3)
      exact bodyPost_ret (res36 rfl rfl rfl (put3_same _ _ _ hr3)) rfl ⟨rfl, put3_below _ _ _ (ext_trans hbb hb3) (Nat.le_refl _)⟩
    · have hx2 : ((s[0].toNat : Int) == 34) = false := by simp; omega
      have hq1 := hq.out.2.2 hn0 hc
      have hC := sign_any s hs h0 w2
      obtain ⟨k1, t1, n1, e1, hf⟩ := sign_form s.data.toList
      rw [hf] at hC hq1
      clear hf hq hE2 hc hn0
      subst hq1
      refine Lib.hid ?_
      go_wp2_with (go_at_call 63; refine hC.mono ?_; rintro e w3 ⟨rfl, hb3⟩; have hr3 := block_below hb3 hr2; obtain ⟨c0, c1, c2, f0, f1, f2⟩ := in3 hr3)
      exact bodyPost_ret (res36 rfl rfl rfl (put3_same _ _ _ hr3)) rfl ⟨rfl, put3_below _ _ _ (ext_trans hbb hb3) (Nat.le_refl _)⟩
end Go.Proofs.YtbofdfdmikhanaaGreatDoor
