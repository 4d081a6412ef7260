/- Walks of package lex: a text between quotes. -/
import Derived.Test.YtkcieeckndimpaaDoorLC
namespace Go.Proofs.YtkcieeckndimpaaDoor
open Go.RowKit
open Go

theorem res50 {tm : Array Value} {W : World} {B : Nat} {k : Int} {t : ByteArray} {a : Int} {n e : Int} (h : tm[2]?.getD undef = .pointer (some ⟨B, 0, none⟩)) (h3 : tm[3]?.getD undef = .int .i64 n) (h4 : tm[4]?.getD undef = .int .i64 e) (hx : W.heap[B]? = some (tbx k t a)) : (results Tryd.f50 tm).run Tryd.prog W = .ok (.tuple #[tokv k t a, .int .i64 n, .int .i64 e]) W := by
  obtain ⟨c0, c1, c2, _, _, _⟩ := in3 hx
  simp [results, Tryd.results50, go_sem, h, h3, h4, c0, c1, c2]
theorem res49 {tm : Array Value} {W : World} {B : Nat} {k : Int} {t : ByteArray} {a : Int} {n e : Int} (h : tm[2]?.getD undef = .pointer (some ⟨B, 0, none⟩)) (h3 : tm[3]?.getD undef = .int .i64 n) (h4 : tm[4]?.getD undef = .int .i64 e) (hx : W.heap[B]? = some (tbx k t a)) : (results Tryd.f49 tm).run Tryd.prog W = .ok (.tuple #[tokv k t a, .int .i64 n, .int .i64 e]) W := by
  obtain ⟨c0, c1, c2, _, _, _⟩ := in3 hx
  simp [results, Tryd.results49, go_sem, h, h3, h4, c0, c1, c2]
theorem res36 {tm : Array Value} {W : World} {B : Nat} {k : Int} {t : ByteArray} {a : Int} {n e : Int} (h : tm[2]?.getD undef = .pointer (some ⟨B, 0, none⟩)) (h3 : tm[3]?.getD undef = .int .i64 n) (h4 : tm[4]?.getD undef = .int .i64 e) (hx : W.heap[B]? = some (tbx k t a)) : (results Tryd.f36 tm).run Tryd.prog W = .ok (.tuple #[tokv k t a, .int .i64 n, .int .i64 e]) W := by
  obtain ⟨c0, c1, c2, _, _, _⟩ := in3 hx
  simp [results, Tryd.results36, go_sem, h, h3, h4, c0, c1, c2]

theorem inSp_txt : inSp [(32, 33), (35, 126)] = txtB := by
  funext x
  simp only [inSp, txtB, List.any_cons, List.any_nil, Bool.or_false]
  rw [Bool.eq_iff_iff]
  simp
  omega
theorem inSp_row : inSp [(97, 122), (65, 90), (48, 57), (95, 95)] = rowB := by
  funext x
  simp only [inSp, rowB, letB, digB, List.any_cons, List.any_nil, Bool.or_false]
  rw [Bool.eq_iff_iff]
  simp
  omega
theorem inSp_dig : inSp [(48, 57)] = digB := by
  funext x
  simp only [inSp, digB, List.any_cons, List.any_nil, Bool.or_false]

theorem says_of {c : Nat} {sp : List (Nat × Nat)} {w : World} (h : Spans c sp w) (hl : sp.length ≤ 4) {p : UInt8 → Bool} (hp : inSp sp = p) : Says w 67 (.pointer (some ⟨c, 0, none⟩)) p := by
  subst hp
  exact fun x w1 h1 => within1_any c sp x w1 (h.below h1 (Nat.le_refl _)) hl

/-- What lies in memory when a closure over spans is made. -/
theorem span_mem (w : World) (sp : List (Nat × Nat)) (cs : Array Value) (n : Nat) (hn : sp.length = n) (hcs : ∀ i p, sp[i]? = some p → cs[i * 2]? = some (.int .u8 (p.1 : Nat)) ∧ cs[i * 2 + 1]? = some (.int .u8 (p.2 : Nat)))
    {W : World} (hW : ((w.alloc zeroTok).alloc (.cells cs 70)).alloc (.cells #[.slice (some ⟨w.heap.size + 1, 0, none⟩) n n] 85) = W) :
    W.heap[w.heap.size]? = some zeroTok ∧ Below w.heap.size w W ∧ Spans (w.heap.size + 1 + 1) sp W := by
  subst hW
  refine ⟨block_alloc _ (block_alloc _ (alloc_new _ _)), ext_alloc (ext_alloc (ext_alloc (Below.refl _ _) _) _) _, w.heap.size + 1, ?_, fun i p hp => ?_⟩
  · have := alloc_new ((w.alloc zeroTok).alloc (.cells cs 70)) (.cells #[.slice (some ⟨w.heap.size + 1, 0, none⟩) n n] 85)
    simp only [World.size_alloc] at this
    rw [hn]
    exact cell_block this rfl
  · have := block_alloc (.cells #[.slice (some ⟨w.heap.size + 1, 0, none⟩) n n] 85) (alloc_new (w.alloc zeroTok) (.cells cs 70))
    simp only [World.size_alloc] at this
    exact ⟨cell_block this (hcs i p hp).1, cell_block this (hcs i p hp).2⟩
theorem cs_txt : ∀ i p, [((32 : Nat), (33 : Nat)), (35, 126)][i]? = some p → (#[.int .u8 32, .int .u8 33, .int .u8 35, .int .u8 126] : Array Value)[i * 2]? = some (.int .u8 (p.1 : Nat)) ∧ (#[.int .u8 32, .int .u8 33, .int .u8 35, .int .u8 126] : Array Value)[i * 2 + 1]? = some (.int .u8 (p.2 : Nat))
  | 0, p, h => by cases h; exact ⟨rfl, rfl⟩
  | 1, p, h => by cases h; exact ⟨rfl, rfl⟩
  | n + 2, p, h => by simp at h
theorem cs_dig : ∀ i p, [((48 : Nat), (57 : Nat))][i]? = some p → (#[.int .u8 48, .int .u8 57] : Array Value)[i * 2]? = some (.int .u8 (p.1 : Nat)) ∧ (#[.int .u8 48, .int .u8 57] : Array Value)[i * 2 + 1]? = some (.int .u8 (p.2 : Nat))
  | 0, p, h => by cases h; exact ⟨rfl, rfl⟩
  | n + 1, p, h => by simp at h
theorem cs_row : ∀ i p, [((97 : Nat), (122 : Nat)), (65, 90), (48, 57), (95, 95)][i]? = some p → (#[.int .u8 97, .int .u8 122, .int .u8 65, .int .u8 90, .int .u8 48, .int .u8 57, .int .u8 95, .int .u8 95] : Array Value)[i * 2]? = some (.int .u8 (p.1 : Nat)) ∧ (#[.int .u8 97, .int .u8 122, .int .u8 65, .int .u8 90, .int .u8 48, .int .u8 57, .int .u8 95, .int .u8 95] : Array Value)[i * 2 + 1]? = some (.int .u8 (p.2 : Nat))
  | 0, p, h => by cases h; exact ⟨rfl, rfl⟩
  | 1, p, h => by cases h; exact ⟨rfl, rfl⟩
  | 2, p, h => by cases h; exact ⟨rfl, rfl⟩
  | 3, p, h => by cases h; exact ⟨rfl, rfl⟩
  | n + 4, p, h => by simp at h

def quotV (r : List UInt8) : Value := if r[runN txtB r]? = some 34 then (if 300 < runN txtB r then outV 0 ⟨#[]⟩ 0 1 else outV 3 ⟨(r.take (runN txtB r)).toArray⟩ (runN txtB r + 2) 0) else outV 0 ⟨#[]⟩ 0 2
theorem quotV_none {r : List UInt8} (h : r[runN txtB r]? ≠ some 34) : quotV r = outV 0 ⟨#[]⟩ 0 2 := by unfold quotV; rw [if_neg h]
theorem quotV_long {r : List UInt8} (h : r[runN txtB r]? = some 34) (k : 300 < runN txtB r) : quotV r = outV 0 ⟨#[]⟩ 0 1 := by unfold quotV; rw [if_pos h, if_pos k]
theorem quotV_ok {r : List UInt8} (h : r[runN txtB r]? = some 34) (k : ¬ 300 < runN txtB r) : quotV r = outV 3 ⟨(r.take (runN txtB r)).toArray⟩ (runN txtB r + 2) 0 := by unfold quotV; rw [if_pos h, if_neg k]

theorem byte_at {R : ByteArray} {n : Nat} (h : n < R.size) : R.data.toList[n]? = some R[n] := by
  rw [List.getElem?_eq_getElem (by simpa using h)]; rfl

set_option maxRecDepth 20000 in
set_option maxHeartbeats 2000000 in
theorem quoted_any (s : ByteArray) (hs : s.size ≤ 4000) (h0 : 0 < s.size) (w : World) :
    Calls Tryd.prog 50 #[.string s] w fun e w' => e = .returned (quotV (s.data.toList.drop 1)) ∧ Below w.heap.size w w' := by
  have h1' : (1 : Int) ≤ (s.size : Int) := by omega
  have hW := fun v u h => within_any v u h
  rw [← drop_list s 1]
  obtain ⟨V, hV⟩ : ∃ V, quotV (s.extract 1 s.size).data.toList = V := ⟨_, rfl⟩
  rw [hV]
  replace hV : Hid _ := hV
  go_enter Tryd.func50, Tryd.ntmps50
  go_wp2_with (first | (go_at_call 48; refine (hW _ _ ⟨_, _, _, rfl⟩).mono ?_; rintro e w' ⟨rfl, rfl⟩) | (go_at_call 47; refine Hid.out ?_))
  have hz : (s.extract 1 s.size).size ≤ 4000 := by simp; omega
  obtain ⟨R, hR⟩ : ∃ R, s.extract 1 s.size = R := ⟨_, rfl⟩
  obtain ⟨W, hWW⟩ : ∃ W, ((w.alloc zeroTok).alloc (.cells #[.int .u8 32, .int .u8 33, .int .u8 35, .int .u8 126] 70)).alloc (.cells #[.slice (some ⟨w.heap.size + 1, 0, none⟩) 2 2] 85) = W := ⟨_, rfl⟩
  obtain ⟨hr, hb, hsp⟩ := span_mem w [(32, 33), (35, 126)] _ 2 rfl cs_txt hWW
  rw [hR] at hz hV ⊢
  rw [hWW]
  have hrun := run_67 R hz _ txtB W (says_of hsp (by decide) inSp_txt)
  have hle := runN_le txtB R.data.toList
  have hle2 : runN txtB R.data.toList ≤ R.size := by simpa using hle
  clear hWW hR hW hsp hle h1' h0 hs
  have hq1 := quotV_none (r := R.data.toList)
  have hq2 := quotV_long (r := R.data.toList)
  have hq3 := quotV_ok (r := R.data.toList)
  rw [← take_list] at hq3
  obtain ⟨n, hn⟩ : ∃ n, runN txtB R.data.toList = n := ⟨_, rfl⟩
  rw [hn] at hrun hle2 hq1 hq2 hq3
  rw [ba_list] at hq3
  clear hn
  rw [hV.out] at hq1 hq2 hq3
  clear hV
  have hqq : Hid _ := And.intro hq1 (And.intro hq2 hq3)
  clear hq1 hq2 hq3
  have hM := fun u => made_any 3 (R.extract 0 n) (by simp; omega) u
  refine hrun.mono ?_
  rintro e w2 ⟨rfl, hb2⟩
  clear hrun
  have hr2 := block_below hb2 hr
  have hbb := ext_trans hb hb2
  clear hb hr hb2
  obtain ⟨c0, c1, c2, f0, f1, f2⟩ := in3 hr2
  by_cases he : n = R.size
  · have hx : ((n : Int) == (R.size : Int)) = true := by simp [he]
    have hE : Hid (V = outV 0 ⟨#[]⟩ 0 2) := hqq.out.1 (by rw [List.getElem?_eq_none (by simp; omega)]; simp)
    clear he hqq
    refine Lib.hid ?_
    go_wp2
    exact bodyPost_ret (res50 rfl rfl rfl (put3_same _ _ _ hr2)) rfl ⟨congrArg _ hE.out.symm, put3_below _ _ _ hbb (Nat.le_refl _)⟩
  · have hlt : n < R.size := by omega
    have hx : ((n : Int) == (R.size : Int)) = false := by simp; omega
    have hby := byte_at hlt
    by_cases hc : R[n].toNat = 34
    · have hc1 : R[n] = 34 := UInt8.toNat_inj.1 hc
      have hx2 : ((R[n].toNat : Int) == 34) = true := by simp [hc]
      rw [hc1] at hby
      by_cases hn3 : 300 < n
      · have hE : Hid (V = outV 0 ⟨#[]⟩ 0 1) := hqq.out.2.1 hby hn3
        have hi3 : (300 : Int) < (n : Int) := by omega
        clear hqq hby hc hc1 he
        refine Lib.hid ?_
        go_wp2
        exact bodyPost_ret (res50 rfl rfl rfl (put3_same _ _ _ hr2)) rfl ⟨congrArg _ hE.out.symm, put3_below _ _ _ hbb (Nat.le_refl _)⟩
      · have hE : Hid (V = outV 3 (R.extract 0 n) (n + 2) 0) := hqq.out.2.2 hby hn3
        have hi3 : ¬ (300 : Int) < (n : Int) := by omega
        clear hqq hby hc hc1 he
        refine Lib.hid ?_
        go_wp2_with (go_at_call 68; refine (hM _).mono ?_; rintro e w3 ⟨rfl, hb3⟩; have hr3 := block_below hb3 hr2; obtain ⟨c0, c1, c2, f0, f1, f2⟩ := in3 hr3)
        exact bodyPost_ret (res50 rfl rfl rfl (put3_same _ _ _ hr3)) rfl ⟨congrArg _ (hE.out.trans (by simp)).symm, put3_below _ _ _ (ext_trans hbb hb3) (Nat.le_refl _)⟩
    · have hx2 : ((R[n].toNat : Int) == 34) = false := by simp; omega
      have hE : Hid (V = outV 0 ⟨#[]⟩ 0 2) := hqq.out.1 (by rw [hby]; intro e; apply hc; injection e with e; rw [e]; rfl)
      clear hqq hby hc he
      refine Lib.hid ?_
      go_wp2
      exact bodyPost_ret (res50 rfl rfl rfl (put3_same _ _ _ hr2)) rfl ⟨congrArg _ hE.out.symm, put3_below _ _ _ hbb (Nat.le_refl _)⟩
end Go.Proofs.YtkcieeckndimpaaDoor
