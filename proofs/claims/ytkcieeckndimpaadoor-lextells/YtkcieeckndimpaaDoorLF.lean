/- Walks of package lex: the token that a text begins with. -/
import Derived.Test.YtkcieeckndimpaaDoorLE
namespace Go.Proofs.YtkcieeckndimpaaDoor
open Go.RowKit
open Go

theorem wn_form (l : List UInt8) : ∃ k t n e, wnV l = outV k t n e := by
  unfold wnV
  split
  · split <;> exact ⟨_, _, _, _, rfl⟩
  · split <;> exact ⟨_, _, _, _, rfl⟩
theorem quot_form (l : List UInt8) : ∃ k t n e, quotV l = outV k t n e := by
  unfold quotV
  split
  · split <;> exact ⟨_, _, _, _, rfl⟩
  · exact ⟨_, _, _, _, rfl⟩
theorem sign_form (l : List UInt8) : ∃ k t n e, signV l = outV k t n e := by
  unfold signV
  split <;> exact ⟨_, _, _, _, rfl⟩

theorem let_not_dig {c : UInt8} (h : letB c = true) : digB c = false := by
  simp [letB] at h
  simp [digB]
  omega
theorem first_row (c : UInt8) (r : List UInt8) (h : 0 < runN rowB (c :: r)) : outR (tokR (c :: r)) = wnV ((c :: r).take (runN rowB (c :: r))) := by
  have hle := runN_le rowB (c :: r)
  obtain ⟨n, hn⟩ : ∃ n, runN rowB (c :: r) = n + 1 := ⟨runN rowB (c :: r) - 1, by omega⟩
  have hc : rowB c = true := by
    cases h' : rowB c
    · simp [runN, h'] at h
    · rfl
  have hh : (((c :: r).take (n + 1)).head?.map digB).getD false = digB c := by simp
  have hlen : ((c :: r).take (n + 1)).length = n + 1 := by rw [List.length_take]; omega
  unfold tokR wnV
  simp only
  rw [hn, hh, hlen]
  by_cases hl : letB c = true
  · rw [if_pos hl, let_not_dig hl, if_pos rfl]
    split <;> rfl
  · have hd : digB c = true := by
      simp only [rowB, Bool.or_eq_true] at hc
      exact hc.resolve_left hl
    rw [if_neg hl, if_pos hd, hd, if_neg (show ¬ (true = false) by decide)]
    split <;> rfl
theorem first_not (c : UInt8) (r : List UInt8) (h : ¬ 0 < runN rowB (c :: r)) : letB c = false ∧ digB c = false := by
  have hc : rowB c = false := by
    cases h' : rowB c
    · rfl
    · simp [runN, h'] at h
  simpa [rowB] using hc
theorem first_quot (c : UInt8) (r : List UInt8) (h : ¬ 0 < runN rowB (c :: r)) (hc : c.toNat = 34) : outR (tokR (c :: r)) = quotV ((c :: r).drop 1) := by
  obtain ⟨h1, h2⟩ := first_not c r h
  unfold tokR quotV
  simp only
  rw [if_neg (by simp [h1]), if_neg (by simp [h2]), if_pos hc]
  simp only [List.drop_succ_cons, List.drop_zero]
  split
  · split <;> rfl
  · rfl
theorem first_sign (c : UInt8) (r : List UInt8) (h : ¬ 0 < runN rowB (c :: r)) (hc : ¬ c.toNat = 34) : outR (tokR (c :: r)) = signV (c :: r) := by
  obtain ⟨h1, h2⟩ := first_not c r h
  unfold tokR signV
  simp only
  rw [if_neg (by simp [h1]), if_neg (by simp [h2]), if_neg hc]
  split <;> rfl

set_option maxRecDepth 20000 in
set_option maxHeartbeats 2000000 in
theorem first_any (s : ByteArray) (hs : s.size ≤ 4000) (h0 : 0 < s.size) (w : World) (hE : ErrV w) :
    Calls Tryd.prog 36 #[.string s] w fun e w' => e = .returned (outR (tokR s.data.toList)) ∧ Below w.heap.size w w' := by
  have h0' : (0 : Int) < (s.size : Int) := by omega
  have hW := fun v u h => within_any v u h
  obtain ⟨V, hV⟩ : ∃ V, outR (tokR s.data.toList) = V := ⟨_, rfl⟩
  rw [hV]
  replace hV : Hid _ := hV
  replace hE : Hid _ := hE
  go_enter Tryd.func36, Tryd.ntmps36
  go_wp2_with (first | (go_at_call 48; refine (hW _ _ ⟨_, _, _, rfl⟩).mono ?_; rintro e w' ⟨rfl, rfl⟩) | (go_at_call 47; refine Hid.out ?_))
  obtain ⟨W, hWW⟩ : ∃ W, ((w.alloc zeroTok).alloc (.cells #[.int .u8 97, .int .u8 122, .int .u8 65, .int .u8 90, .int .u8 48, .int .u8 57, .int .u8 95, .int .u8 95] 70)).alloc (.cells #[.slice (some ⟨w.heap.size + 1, 0, none⟩) 4 4] 85) = W := ⟨_, rfl⟩
  obtain ⟨hr, hb, hsp⟩ := span_mem w [(97, 122), (65, 90), (48, 57), (95, 95)] _ 4 rfl cs_row hWW
  rw [hWW]
  have hrun := run_67 s hs _ rowB W (says_of hsp (by decide) inSp_row)
  have hle := runN_le rowB s.data.toList
  have hle2 : runN rowB s.data.toList ≤ s.size := by simpa using hle
  obtain ⟨c, r, hl, hc, _⟩ := list_cons s h0
  have q1 := first_row c r
  have q2 := first_quot c r
  have q3 := first_sign c r
  rw [← hl, hV.out] at q1 q2 q3
  rw [← hc] at q2 q3
  rw [← take_list] at q1
  obtain ⟨n, hn⟩ : ∃ n, runN rowB s.data.toList = n := ⟨_, rfl⟩
  rw [hn] at hrun hle2 q1 q2 q3
  clear hWW hW hsp hle hV hl hc hn
  have hq : Hid _ := And.intro q1 (And.intro q2 q3)
  clear q1 q2 q3
  refine hrun.mono ?_
  rintro e w2 ⟨rfl, hb2⟩
  clear hrun
  have hr2 := block_below hb2 hr
  have hbb := ext_trans hb hb2
  have hE2 : ErrV w2 := ErrV.on (ErrV.on hE.out hb) hb2
  clear hb hr hb2 hE
  by_cases hn0 : 0 < n
  · have hq1 := hq.out.1 hn0
    have hx : (0 : Int) < (n : Int) := by omega
    have hC := wn_any (s.extract 0 n) (by simp; omega) (by simp; omega) w2 hE2
    obtain ⟨k1, t1, n1, e1, hf⟩ := wn_form (s.extract 0 n).data.toList
    rw [hf] at hC hq1
    clear hf hq hE2
    subst hq1
    refine Lib.hid ?_
    go_wp2_with (go_at_call 49; refine hC.mono ?_; rintro e w3 ⟨rfl, hb3⟩; have hr3 := block_below hb3 hr2; obtain ⟨c0, c1, c2, f0, f1, f2⟩ := in3 hr3)
    exact bodyPost_ret (res36 rfl rfl rfl (put3_same _ _ _ hr3)) rfl ⟨rfl, put3_below _ _ _ (ext_trans hbb hb3) (Nat.le_refl _)⟩
  · have hx : ¬ (0 : Int) < (n : Int) := by omega
    by_cases hc : s[0].toNat = 34
    · have hx2 : ((s[0].toNat : Int) == 34) = true := by simp [hc]
      have hq1 := hq.out.2.1 hn0 hc
      have hC := quoted_any s hs h0 w2
      obtain ⟨k1, t1, n1, e1, hf⟩ := quot_form (s.data.toList.drop 1)
      rw [hf] at hC hq1
      clear hf hq hE2 hc hn0
      subst hq1
      refine Lib.hid ?_
      go_wp2_with (go_at_call 50; refine hC.mono ?_; rintro e w3 ⟨rfl, hb3⟩; have hr3 := block_below hb3 hr2; obtain ⟨c0, c1, c2, f0, f1, f2⟩ := in3 hr3)
      exact bodyPost_ret (res36 rfl rfl rfl (put3_same _ _ _ hr3)) rfl ⟨rfl, put3_below _ _ _ (ext_trans hbb hb3) (Nat.le_refl _)⟩
    · have hx2 : ((s[0].toNat : Int) == 34) = false := by simp; omega
      have hq1 := hq.out.2.2 hn0 hc
      have hC := sign_any s hs h0 w2
      obtain ⟨k1, t1, n1, e1, hf⟩ := sign_form s.data.toList
      rw [hf] at hC hq1
      clear hf hq hE2 hc hn0
      subst hq1
      refine Lib.hid ?_
      go_wp2_with (go_at_call 51; refine hC.mono ?_; rintro e w3 ⟨rfl, hb3⟩; have hr3 := block_below hb3 hr2; obtain ⟨c0, c1, c2, f0, f1, f2⟩ := in3 hr3)
      exact bodyPost_ret (res36 rfl rfl rfl (put3_same _ _ _ hr3)) rfl ⟨rfl, put3_below _ _ _ (ext_trans hbb hb3) (Nat.le_refl _)⟩
end Go.Proofs.YtkcieeckndimpaaDoor
