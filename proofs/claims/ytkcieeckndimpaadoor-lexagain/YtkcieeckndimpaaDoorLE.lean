/- Walks of package lex: a word or a number. -/
import Derived.Test.YtkcieeckndimpaaDoorLD
namespace Go.Proofs.YtkcieeckndimpaaDoor
open Go.RowKit
open Go

/-- The library's variable holds an error, or nil. -/
def ErrV (w : World) : Prop := ∃ ev, w.cell? ⟨4, 0, none⟩ = some ev ∧ (ev = .nilIface ∨ ∃ te pe, ev = .iface te pe)
theorem ErrV.on {w w' : World} (h : ErrV w) (hb : Below w.heap.size w w') : ErrV w' := by
  obtain ⟨ev, h1, h2⟩ := h
  exact ⟨ev, (hb.cell (p := ⟨4, 0, none⟩) (World.block_lt_of_cell? _ _ h1)).trans h1, h2⟩

def wnV (l : List UInt8) : Value :=
  if (l.head?.map digB).getD false = false then (if 16 < l.length then outV 0 ⟨#[]⟩ 0 1 else outV 1 ⟨l.toArray⟩ l.length 0)
  else if numE l = 0 then outV 2 ⟨l.toArray⟩ l.length 0 else outV 0 ⟨#[]⟩ 0 (numE l)

theorem all_run (p : UInt8 → Bool) : ∀ l : List UInt8, l.all p = decide (l.length ≤ runN p l)
  | [] => by simp [runN]
  | c :: r => by
    have := runN_le p r
    rw [List.all_cons, all_run p r, runN]
    cases p c
    · simp
    · simp

theorem parse_ok (s : ByteArray) (hs : s.size ≤ 4000) (v : Int) (h : Lib.parseIntB 64 s.data.toList = .ok v) (w : World) :
    Calls Tryd.prog 69 #[.string s, .int .i64 10, .int .i64 64] w fun e w' => e = .returned (.tuple #[.int .i64 v, .nilIface]) ∧ Below w.heap.size w w' := by
  refine (Tryd.strconv_ParseInt_10_at64_ok s (by omega) v h w).mono ?_
  rintro e w' ⟨rfl, hW⟩
  refine ⟨rfl, ?_⟩
  rcases hW with rfl | ⟨t, rfl⟩
  · exact Below.refl _ _
  · exact Lib.bytesWorld_below _ _ _
theorem parse_range (s : ByteArray) (hs : s.size ≤ 4000) (h : Lib.parseIntB 64 s.data.toList = .range) (w : World) (hv : ErrV w) :
    Calls Tryd.prog 69 #[.string s, .int .i64 10, .int .i64 64] w fun e w' => ∃ v N, e = .returned (.tuple #[.int .i64 v, .iface 108 (.pointer (some ⟨N, 0, none⟩))]) ∧ Below w.heap.size w w' := by
  obtain ⟨ev, h1, h2⟩ := hv
  refine (Tryd.strconv_ParseInt_10_at64_range s (by omega) h ev w h1 h2).mono ?_
  rintro e w' ⟨N, rfl, _, _, hb⟩
  exact ⟨_, N, rfl, hb⟩

/-- What a row of letters and digits meets. -/
theorem wn_cases (c : UInt8) (r : List UInt8) :
    (digB c = false ∧ 16 < (c :: r).length ∧ wnV (c :: r) = outV 0 ⟨#[]⟩ 0 1) ∨
    (digB c = false ∧ ¬ 16 < (c :: r).length ∧ wnV (c :: r) = outV 1 ⟨(c :: r).toArray⟩ (c :: r).length 0) ∨
    (digB c = true ∧ runN digB (c :: r) < (c :: r).length ∧ wnV (c :: r) = outV 0 ⟨#[]⟩ 0 2) ∨
    (digB c = true ∧ ¬ runN digB (c :: r) < (c :: r).length ∧ c = 48 ∧ 1 < (c :: r).length ∧ wnV (c :: r) = outV 0 ⟨#[]⟩ 0 2) ∨
    (digB c = true ∧ ¬ runN digB (c :: r) < (c :: r).length ∧ ¬ (c = 48 ∧ 1 < (c :: r).length) ∧ Lib.parseIntB 64 (c :: r) = .range ∧ wnV (c :: r) = outV 0 ⟨#[]⟩ 0 6) ∨
    (digB c = true ∧ ¬ runN digB (c :: r) < (c :: r).length ∧ ¬ (c = 48 ∧ 1 < (c :: r).length) ∧ Lib.parseIntB 64 (c :: r) = .ok (numV (c :: r) : Int) ∧ wnV (c :: r) = outV 2 ⟨(c :: r).toArray⟩ (c :: r).length 0) := by
  have hall := all_run digB (c :: r)
  have hle := runN_le digB (c :: r)
  have hh : (((c :: r).head?.map digB).getD false) = digB c := rfl
  unfold wnV
  rw [hh]
  cases hc : digB c
  · by_cases h : 16 < (c :: r).length
    · left; exact ⟨rfl, h, by rw [if_pos rfl, if_pos h]⟩
    · right; left; exact ⟨rfl, h, by rw [if_pos rfl, if_neg h]⟩
  right; right
  by_cases h1 : runN digB (c :: r) < (c :: r).length
  · left
    have : numE (c :: r) = 2 := by unfold numE; rw [hall, if_pos (by simp only [decide_eq_false_iff_not]; omega)]
    exact ⟨rfl, h1, by rw [if_neg (by simp), this]; rfl⟩
  right
  have ha : (c :: r).all digB = true := by rw [hall]; simp only [decide_eq_true_eq]; omega
  by_cases h2 : c = 48 ∧ 1 < (c :: r).length
  · left
    have : numE (c :: r) = 2 := by unfold numE; rw [ha, if_neg (by simp), if_pos ⟨h2.2, by rw [h2.1]; rfl⟩]
    exact ⟨rfl, h1, h2.1, h2.2, by rw [if_neg (by simp), this]; rfl⟩
  right
  have hp := parse_digits (c :: r) (by simp) ha
  have h2' : ¬ (1 < (c :: r).length ∧ (c :: r).head? = some 48) := fun h => h2 ⟨by simpa using h.2, h.1⟩
  by_cases h3 : 9223372036854775807 < numV (c :: r)
  · left
    have : numE (c :: r) = 6 := by unfold numE; rw [ha, if_neg (by simp), if_neg h2', if_pos h3]
    exact ⟨rfl, h1, h2, by rw [hp, if_pos h3], by rw [if_neg (by simp), this]; rfl⟩
  · right
    have : numE (c :: r) = 0 := by unfold numE; rw [ha, if_neg (by simp), if_neg h2', if_neg h3]
    exact ⟨rfl, h1, h2, by rw [hp, if_neg h3], by rw [if_neg (by simp), this]; rfl⟩

set_option maxRecDepth 20000 in
set_option maxHeartbeats 2000000 in
theorem wn_any (s : ByteArray) (hs : s.size ≤ 4000) (h0 : 0 < s.size) (w : World) (hE : ErrV w) :
    Calls Tryd.prog 49 #[.string s] w fun e w' => e = .returned (wnV s.data.toList) ∧ Below w.heap.size w w' := by
  have h0' : (0 : Int) < (s.size : Int) := by omega
  have hW := fun v u h => within_any v u h
  obtain ⟨V, hV⟩ : ∃ V, wnV s.data.toList = V := ⟨_, rfl⟩
  rw [hV]
  replace hV : Hid _ := hV
  replace hE : Hid _ := hE
  go_enter Tryd.func49, Tryd.ntmps49
  go_wp2_with (first | (go_at_call 48; refine (hW _ _ ⟨_, _, _, rfl⟩).mono ?_; rintro e w' ⟨rfl, rfl⟩) | (go_at_call 67; refine Hid.out ?_))
  obtain ⟨W, hWW⟩ : ∃ W, ((w.alloc zeroTok).alloc (.cells #[.int .u8 48, .int .u8 57] 70)).alloc (.cells #[.slice (some ⟨w.heap.size + 1, 0, none⟩) 1 1] 85) = W := ⟨_, rfl⟩
  obtain ⟨hr, hb, hsp⟩ := span_mem w [(48, 57)] _ 1 rfl cs_dig hWW
  rw [hWW]
  have hsay := says_of hsp (by decide) inSp_dig
  have hask := hsay s[0] W (Below.refl _ _)
  obtain ⟨c, r, hl, hc, _⟩ := list_cons s h0
  have hC := wn_cases c r
  rw [← hl, hV.out] at hC
  have hlen : s.data.toList.length = s.size := by simp
  have hba := ba_list s
  rw [hlen, hba] at hC
  have hM1 := fun u => made_any 1 s hs u
  have hM2 := fun u => made_any 2 s hs u
  clear hWW hW hsp hV hlen hba hl
  rw [← hc] at hC
  clear hc
  refine hask.mono ?_
  rintro e w2 ⟨rfl, hb2⟩
  clear hask
  have hr2 := block_below hb2 hr
  have hbb := ext_trans hb hb2
  have hsay2 := hsay.on hb2
  have hE2 : ErrV w2 := ErrV.on (ErrV.on hE.out hb) hb2
  clear hb hr hb2 hE hsay
  obtain ⟨c0, c1, c2, f0, f1, f2⟩ := in3 hr2
  have hrun := run_67 s hs _ digB w2 hsay2
  clear hsay2
  rcases hC with ⟨e1, e2, e3⟩ | ⟨e1, e2, e3⟩ | ⟨e1, e2, e3⟩ | ⟨e1, e2, e3, e4, e5⟩ | ⟨e1, e2, e3, e4, e5⟩ | ⟨e1, e2, e3, e4, e5⟩
  · have e2' : (16 : Int) < (s.size : Int) := by omega
    replace e3 : Hid _ := e3
    rw [e1]
    refine Lib.hid ?_
    go_wp2
    exact bodyPost_ret (res49 rfl rfl rfl (put3_same _ _ _ hr2)) rfl ⟨congrArg _ e3.out.symm, put3_below _ _ _ hbb (Nat.le_refl _)⟩
  · have e2' : ¬ (16 : Int) < (s.size : Int) := by omega
    replace e3 : Hid _ := e3
    rw [e1]
    refine Lib.hid ?_
    go_wp2_with (go_at_call 68; refine (hM1 _).mono ?_; rintro e w3 ⟨rfl, hb3⟩; have hr3 := block_below hb3 hr2; obtain ⟨c0, c1, c2, f0, f1, f2⟩ := in3 hr3)
    exact bodyPost_ret (res49 rfl rfl rfl (put3_same _ _ _ hr3)) rfl ⟨congrArg _ e3.out.symm, put3_below _ _ _ (ext_trans hbb hb3) (Nat.le_refl _)⟩
  · obtain ⟨n, hn⟩ : ∃ n, runN digB s.data.toList = n := ⟨_, rfl⟩
    rw [hn] at e2 hrun
    have e2' : (n : Int) < (s.size : Int) := by omega
    clear hn e2
    replace e3 : Hid _ := e3
    rw [e1]
    refine Lib.hid ?_
    go_wp2_with (go_at_call 47; refine hrun.mono ?_; rintro e w3 ⟨rfl, hb3⟩; have hr3 := block_below hb3 hr2; obtain ⟨c0, c1, c2, f0, f1, f2⟩ := in3 hr3)
    exact bodyPost_ret (res49 rfl rfl rfl (put3_same _ _ _ hr3)) rfl ⟨congrArg _ e3.out.symm, put3_below _ _ _ (ext_trans hbb hb3) (Nat.le_refl _)⟩
  · obtain ⟨n, hn⟩ : ∃ n, runN digB s.data.toList = n := ⟨_, rfl⟩
    rw [hn] at e2 hrun
    have e2' : ¬ (n : Int) < (s.size : Int) := by omega
    have e3' : ((s[0].toNat : Int) == 48) = true := by rw [e3]; rfl
    have e4' : (1 : Int) < (s.size : Int) := by omega
    clear hn e2 e3 e4
    replace e5 : Hid _ := e5
    rw [e1]
    refine Lib.hid ?_
    go_wp2_with (go_at_call 47; refine hrun.mono ?_; rintro e w3 ⟨rfl, hb3⟩; have hr3 := block_below hb3 hr2; obtain ⟨c0, c1, c2, f0, f1, f2⟩ := in3 hr3)
    exact bodyPost_ret (res49 rfl rfl rfl (put3_same _ _ _ hr3)) rfl ⟨congrArg _ e5.out.symm, put3_below _ _ _ (ext_trans hbb hb3) (Nat.le_refl _)⟩
  · obtain ⟨n, hn⟩ : ∃ n, runN digB s.data.toList = n := ⟨_, rfl⟩
    rw [hn] at e2 hrun
    have e2' : ¬ (n : Int) < (s.size : Int) := by omega
    clear hn e2
    replace e5 : Hid _ := e5
    replace hE2 : Hid _ := hE2
    have hP := fun u hu => parse_range s hs e4 u hu
    clear e4
    by_cases k : s[0] = 48
    · have k1 : ((s[0].toNat : Int) == 48) = true := by rw [k]; rfl
      have k2 : ¬ (1 : Int) < (s.size : Int) := fun h => e3 ⟨k, by omega⟩
      clear k e3
      rw [e1]
      refine Lib.hid ?_
      go_wp2_with (first | (go_at_call 47; refine hrun.mono ?_; rintro e w3 ⟨rfl, hb3⟩; have hr3 := block_below hb3 hr2) | (go_at_call 69; refine (hP _ (ErrV.on hE2.out hb3)).mono ?_; rintro e w4 ⟨v4, N4, rfl, hb4⟩; have hr4 := block_below hb4 hr3; obtain ⟨c0, c1, c2, f0, f1, f2⟩ := in3 hr4))
      exact bodyPost_ret (res49 rfl rfl rfl (put3_same _ _ _ hr4)) rfl ⟨congrArg _ e5.out.symm, put3_below _ _ _ (ext_trans (ext_trans hbb hb3) hb4) (Nat.le_refl _)⟩
    · have k1 : ((s[0].toNat : Int) == 48) = false := by
        have : s[0].toNat ≠ 48 := fun e => k (UInt8.toNat_inj.1 e)
        simp; omega
      clear k e3
      rw [e1]
      refine Lib.hid ?_
      go_wp2_with (first | (go_at_call 47; refine hrun.mono ?_; rintro e w3 ⟨rfl, hb3⟩; have hr3 := block_below hb3 hr2) | (go_at_call 69; refine (hP _ (ErrV.on hE2.out hb3)).mono ?_; rintro e w4 ⟨v4, N4, rfl, hb4⟩; have hr4 := block_below hb4 hr3; obtain ⟨c0, c1, c2, f0, f1, f2⟩ := in3 hr4))
      exact bodyPost_ret (res49 rfl rfl rfl (put3_same _ _ _ hr4)) rfl ⟨congrArg _ e5.out.symm, put3_below _ _ _ (ext_trans (ext_trans hbb hb3) hb4) (Nat.le_refl _)⟩
  · obtain ⟨n, hn⟩ : ∃ n, runN digB s.data.toList = n := ⟨_, rfl⟩
    rw [hn] at e2 hrun
    have e2' : ¬ (n : Int) < (s.size : Int) := by omega
    clear hn e2
    replace e5 : Hid _ := e5
    replace hE2 : Hid _ := hE2
    have hP := fun u => parse_ok s hs _ e4 u
    clear e4
    by_cases k : s[0] = 48
    · have k1 : ((s[0].toNat : Int) == 48) = true := by rw [k]; rfl
      have k2 : ¬ (1 : Int) < (s.size : Int) := fun h => e3 ⟨k, by omega⟩
      clear k e3
      rw [e1]
      refine Lib.hid ?_
      go_wp2_with (first | (go_at_call 47; refine hrun.mono ?_; rintro e w3 ⟨rfl, hb3⟩; have hr3 := block_below hb3 hr2) | (go_at_call 69; refine (hP _).mono ?_; rintro e w4 ⟨rfl, hb4⟩; have hr4 := block_below hb4 hr3) | (go_at_call 68; refine (hM2 _).mono ?_; rintro e w5 ⟨rfl, hb5⟩; have hr5 := block_below hb5 hr4; obtain ⟨c0, c1, c2, f0, f1, f2⟩ := in3 hr5))
      exact bodyPost_ret (res49 rfl rfl rfl (put3_same _ _ _ hr5)) rfl ⟨congrArg _ e5.out.symm, put3_below _ _ _ (ext_trans (ext_trans (ext_trans hbb hb3) hb4) hb5) (Nat.le_refl _)⟩
    · have k1 : ((s[0].toNat : Int) == 48) = false := by
        have : s[0].toNat ≠ 48 := fun e => k (UInt8.toNat_inj.1 e)
        simp; omega
      clear k e3
      rw [e1]
      refine Lib.hid ?_
      go_wp2_with (first | (go_at_call 47; refine hrun.mono ?_; rintro e w3 ⟨rfl, hb3⟩; have hr3 := block_below hb3 hr2) | (go_at_call 69; refine (hP _).mono ?_; rintro e w4 ⟨rfl, hb4⟩; have hr4 := block_below hb4 hr3) | (go_at_call 68; refine (hM2 _).mono ?_; rintro e w5 ⟨rfl, hb5⟩; have hr5 := block_below hb5 hr4; obtain ⟨c0, c1, c2, f0, f1, f2⟩ := in3 hr5))
      exact bodyPost_ret (res49 rfl rfl rfl (put3_same _ _ _ hr5)) rfl ⟨congrArg _ e5.out.symm, put3_below _ _ _ (ext_trans (ext_trans (ext_trans hbb hb3) hb4) hb5) (Nat.le_refl _)⟩
end Go.Proofs.YtkcieeckndimpaaDoor
