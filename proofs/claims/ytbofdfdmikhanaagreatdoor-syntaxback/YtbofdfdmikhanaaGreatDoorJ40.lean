/- Walks of the document's own reading of tokens: one token. -/
import Derived.Test.YtbofdfdmikhanaaGreatDoorJ39
namespace Go.Proofs.YtbofdfdmikhanaaGreatDoor
open Go.RowKit
open Go

theorem res37 {tm : Array Value} {W : World} {B : Nat} {k : Int} {t : ByteArray} {a : Int} {n e : Int} (h : tm[4]?.getD undef = .pointer (some ⟨B, 0, none⟩)) (h3 : tm[5]?.getD undef = .int .i64 n) (h4 : tm[6]?.getD undef = .int .i64 e) (hx : W.heap[B]? = some (tbx k t a)) : (results Tryz.f29 tm).run Tryz.prog W = .ok (.tuple #[tokv k t a, .int .i64 n, .int .i64 e]) W := by
  obtain ⟨c0, c1, c2, _, _, _⟩ := in3 hx
  simp [results, Tryz.results29, go_sem, h, h3, h4, c0, c1, c2]

/-- What the document's reading of one token answers. -/
def RT (a : Nat) (R : TokR) (k : Int) (t : ByteArray) (p : Int) (n : Int) (e : Int) : Prop :=
  match R with
  | .inl x => e = x
  | .inr (k1, t1, n1) => k = k1 ∧ t = ⟨t1.toArray⟩ ∧ p = (a : Nat) ∧ n = (n1 : Nat) ∧ e = 0

theorem cut_eq (s : ByteArray) (a n : Nat) : s.extract a (a + n) = ⟨((s.data.toList.drop a).take n).toArray⟩ := by
  have h := piece_list s a (a + n)
  rw [Nat.add_sub_cancel_left] at h
  rw [← h, ba_list]

set_option maxRecDepth 20000 in
set_option maxHeartbeats 4000000 in
theorem refToken_any (s : ByteArray) (hs : s.size ≤ 4000) (a : Nat) (ha : a < s.size) (w : World) :
    Calls Tryz.prog 29 #[.string s, .int .i64 a] w fun e w' => (∃ k t p n c, e = .returned (.tuple #[tokv k t p, .int .i64 n, .int .i64 c]) ∧ RT a (tokR (s.data.toList.drop a)) k t p n c) ∧ Below w.heap.size w w' := by
  obtain ⟨T, hT⟩ : ∃ T, tokR (s.data.toList.drop a) = T := ⟨_, rfl⟩
  rw [hT]
  have hr := alloc_new w zeroTok
  have hb0 : Below w.heap.size w (w.alloc zeroTok) := ext_alloc (Below.refl _ _) _
  have ha' : (a : Int) < (s.size : Int) := by omega
  have hRow := fun u => row_any s hs a (by omega) u
  have hLet := fun u => letter_any s[a] u
  have hDig := fun u => digit_any s[a] u
  have hd : s.data.toList.drop a = s[a] :: s.data.toList.drop (a + 1) := by
    rw [List.drop_eq_getElem_cons (by simpa using ha)]; rfl
  have hle := runN_le rowB (s.data.toList.drop a)
  have hle2 : runN rowB (s.data.toList.drop a) ≤ s.size - a := by simpa using hle
  have hcut := cut_eq s a (runN rowB (s.data.toList.drop a))
  have hTT := hT
  rw [hd] at hTT
  unfold tokR at hTT
  simp only at hTT
  rw [← hd] at hTT
  clear hle
  cases hl : letB s[a]
  · rw [hl] at hLet
    cases hg : digB s[a]
    · rw [hg] at hDig
      by_cases h34 : s[a].toNat = 34
      · have h34' : ((s[a].toNat : Int) == 34) = true := by simp [h34]
        have hQ := fun u => rquoted_any s hs (a + 1) (by omega) u
        rw [if_neg (by simp [hl]), if_neg (by simp [hg]), if_pos h34] at hTT
        have hcast : (((a + 1 : Nat)) : Int) = (a : Int) + 1 := by omega
        rw [hcast] at hQ
        clear hcast hcut
        obtain ⟨m, hm⟩ : ∃ m, runN txtB (s.data.toList.drop (a + 1)) = m := ⟨_, rfl⟩
        have hm1 := runN_le txtB (s.data.toList.drop (a + 1))
        have hm2 : m ≤ s.size - (a + 1) := by rw [← hm]; simpa using hm1
        have hcut := cut_eq s (a + 1) m
        unfold rqV at hQ
        rw [hm] at hQ hTT
        obtain ⟨n, hn⟩ : ∃ n, runN rowB (s.data.toList.drop a) = n := ⟨_, rfl⟩
        rw [hn] at hRow hle2
        clear hn hT hd hm hm1 hl hg h34
        by_cases hq : (s.data.toList.drop (a + 1))[m]? = some 34
        · rw [if_pos hq] at hQ hTT
          clear hq
          by_cases h3 : 300 < m
          · have h3' : (300 : Int) < (m : Int) := by omega
            rw [if_pos h3] at hTT
            replace hTT : Hid _ := hTT
            replace hcut : Hid _ := hcut
            go_enter Tryz.func29, Tryz.ntmps29
            go_wp2_with (first | (go_at_call 65; refine (hRow _).mono ?_; rintro e w' ⟨rfl, rfl⟩) | (go_at_call 66; refine (hLet _).mono ?_; rintro e w' ⟨rfl, rfl⟩) | (go_at_call 67; refine (hDig _).mono ?_; rintro e w' ⟨rfl, rfl⟩) | (go_at_call 69; refine (hQ _).mono ?_; rintro e w' ⟨rfl, rfl⟩))
            exact bodyPost_ret (res37 rfl rfl rfl (alloc_new _ _)) rfl ⟨⟨_, _, _, _, _, rfl, by rw [← hTT.out]; rfl⟩, ext_alloc (Below.refl _ _) _⟩
          · have h3' : ¬ (300 : Int) < (m : Int) := by omega
            rw [if_neg h3] at hTT
            replace hTT : Hid _ := hTT
            replace hcut : Hid _ := hcut
            go_enter Tryz.func29, Tryz.ntmps29
            go_wp2_with (first | (go_at_call 65; refine (hRow _).mono ?_; rintro e w' ⟨rfl, rfl⟩) | (go_at_call 66; refine (hLet _).mono ?_; rintro e w' ⟨rfl, rfl⟩) | (go_at_call 67; refine (hDig _).mono ?_; rintro e w' ⟨rfl, rfl⟩) | (go_at_call 69; refine (hQ _).mono ?_; rintro e w' ⟨rfl, rfl⟩))
            exact bodyPost_ret (res37 rfl rfl rfl (alloc_new _ _)) rfl ⟨⟨_, _, _, _, _, rfl, by rw [← hTT.out]; exact ⟨rfl, hcut.out, rfl, by simp, rfl⟩⟩, ext_alloc (Below.refl _ _) _⟩
        · rw [if_neg hq] at hQ hTT
          clear hq
          replace hTT : Hid _ := hTT
          replace hcut : Hid _ := hcut
          go_enter Tryz.func29, Tryz.ntmps29
          go_wp2_with (first | (go_at_call 65; refine (hRow _).mono ?_; rintro e w' ⟨rfl, rfl⟩) | (go_at_call 66; refine (hLet _).mono ?_; rintro e w' ⟨rfl, rfl⟩) | (go_at_call 67; refine (hDig _).mono ?_; rintro e w' ⟨rfl, rfl⟩) | (go_at_call 69; refine (hQ _).mono ?_; rintro e w' ⟨rfl, rfl⟩))
          exact bodyPost_ret (res37 rfl rfl rfl (alloc_new _ _)) rfl ⟨⟨_, _, _, _, _, rfl, by rw [← hTT.out]; rfl⟩, ext_alloc (Below.refl _ _) _⟩
      · have h34' : ((s[a].toNat : Int) == 34) = false := by simp; omega
        have hS := fun u => rsign_any s hs a ha u
        rw [if_neg (by simp [hl]), if_neg (by simp [hg]), if_neg h34] at hTT
        have hfs : firstS (s.data.toList.drop a) = (s.data.toList.drop a).take (signN (s.data.toList.drop a)) := by rw [hd]; exact firstS_eq _ _
        rw [hfs, ← cut_eq] at hS
        have hsl := signN_le (s.data.toList.drop a)
        have hsl2 : signN (s.data.toList.drop a) ≤ s.size - a := by simpa using hsl
        clear hcut
        have hcut := cut_eq s a (signN (s.data.toList.drop a))
        obtain ⟨m, hm⟩ : ∃ m, signN (s.data.toList.drop a) = m := ⟨_, rfl⟩
        rw [hm] at hS hTT hsl2 hcut
        obtain ⟨n, hn⟩ : ∃ n, runN rowB (s.data.toList.drop a) = n := ⟨_, rfl⟩
        rw [hn] at hRow hle2
        clear hn hT hd hm hsl hl hg h34 hfs
        have hsz : (s.extract a (a + m)).size = m := by simp; omega
        obtain ⟨E, hE⟩ : ∃ E, s.extract a (a + m) = E := ⟨_, rfl⟩
        rw [hE] at hS hcut hsz
        clear hE
        by_cases h0 : m = 0
        · have he : (E.toList == []) = true := by
            rw [ByteArray.toList_eq]
            have : E.data.toList.length = 0 := by rw [Array.length_toList]; show E.size = 0; omega
            rw [List.eq_nil_of_length_eq_zero this]; rfl
          rw [if_pos h0] at hTT
          clear h0
          replace hTT : Hid _ := hTT
          replace hcut : Hid _ := hcut
          replace hsz : Hid _ := hsz
          go_enter Tryz.func29, Tryz.ntmps29
          go_wp2_with (first | (go_at_call 65; refine (hRow _).mono ?_; rintro e w' ⟨rfl, rfl⟩) | (go_at_call 66; refine (hLet _).mono ?_; rintro e w' ⟨rfl, rfl⟩) | (go_at_call 67; refine (hDig _).mono ?_; rintro e w' ⟨rfl, rfl⟩) | (go_at_call 70; refine (hS _).mono ?_; rintro e w2 ⟨rfl, hb2⟩; have hr2 := block_below hb2 hr; obtain ⟨c0, c1, c2, f0, f1, f2⟩ := in3 hr2))
          exact bodyPost_ret (res37 rfl rfl rfl (put3_same _ _ _ hr2)) rfl ⟨⟨_, _, _, _, _, rfl, by rw [← hTT.out]; rfl⟩, put3_below _ _ _ (ext_trans hb0 hb2) (Nat.le_refl _)⟩
        · have he : (E.toList == []) = false := by
            rw [ByteArray.toList_eq]
            cases h : E.data.toList with
            | nil =>
              have := congrArg List.length h
              rw [Array.length_toList] at this
              have h2 : E.size = 0 := this
              omega
            | cons => rfl
          rw [if_neg h0] at hTT
          clear h0
          replace hTT : Hid _ := hTT
          replace hcut : Hid _ := hcut
          have hszz : E.size ≤ 4000 := by omega
          replace hsz : Hid _ := hsz
          go_enter Tryz.func29, Tryz.ntmps29
          go_wp2_with (first | (go_at_call 65; refine (hRow _).mono ?_; rintro e w' ⟨rfl, rfl⟩) | (go_at_call 66; refine (hLet _).mono ?_; rintro e w' ⟨rfl, rfl⟩) | (go_at_call 67; refine (hDig _).mono ?_; rintro e w' ⟨rfl, rfl⟩) | (go_at_call 70; refine (hS _).mono ?_; rintro e w2 ⟨rfl, hb2⟩; have hr2 := block_below hb2 hr; obtain ⟨c0, c1, c2, f0, f1, f2⟩ := in3 hr2))
          exact bodyPost_ret (res37 rfl rfl rfl (put3_same _ _ _ hr2)) rfl ⟨⟨_, _, _, _, _, rfl, by rw [← hTT.out]; exact ⟨rfl, hcut.out, rfl, by rw [hsz.out], rfl⟩⟩, put3_below _ _ _ (ext_trans hb0 hb2) (Nat.le_refl _)⟩
    · rw [hg] at hDig
      rw [if_neg (by simp [hl]), if_pos hg] at hTT
      have hpos : 0 < runN rowB (s.data.toList.drop a) := by rw [hd]; simp [runN, rowB, hg]
      have hN := fun u => numeral_any (s.extract a (a + runN rowB (s.data.toList.drop a))) (by simp; omega) (by simp; omega) u
      rw [piece_list, Nat.add_sub_cancel_left] at hN
      obtain ⟨n, hn⟩ : ∃ n, runN rowB (s.data.toList.drop a) = n := ⟨_, rfl⟩
      rw [hn] at hRow hTT hcut hle2 hN hpos
      clear hn hT hd hl hg
      obtain ⟨x, hx⟩ : ∃ x, numE ((s.data.toList.drop a).take n) = x := ⟨_, rfl⟩
      rw [hx] at hN hTT
      clear hx
      replace hTT : Hid _ := hTT
      replace hcut : Hid _ := hcut
      go_enter Tryz.func29, Tryz.ntmps29
      go_wp2_with (first | (go_at_call 65; refine (hRow _).mono ?_; rintro e w' ⟨rfl, rfl⟩) | (go_at_call 66; refine (hLet _).mono ?_; rintro e w' ⟨rfl, rfl⟩) | (go_at_call 67; refine (hDig _).mono ?_; rintro e w' ⟨rfl, rfl⟩) | (go_at_call 68; refine (hN _).mono ?_; rintro e w' ⟨rfl, rfl⟩))
      refine bodyPost_ret (res37 rfl rfl rfl (alloc_new _ _)) rfl ⟨⟨_, _, _, _, _, rfl, ?_⟩, ext_alloc (Below.refl _ _) _⟩
      rw [← hTT.out]
      by_cases h0 : x = 0
      · rw [if_pos h0]; exact ⟨rfl, hcut.out, rfl, rfl, h0⟩
      · rw [if_neg h0]; rfl
  · rw [if_pos hl] at hTT
    obtain ⟨n, hn⟩ : ∃ n, runN rowB (s.data.toList.drop a) = n := ⟨_, rfl⟩
    rw [hn] at hRow hTT hcut hle2
    clear hn hT hd
    by_cases h16 : 16 < n
    · have h16' : (16 : Int) < (n : Int) := by omega
      rw [if_pos h16] at hTT
      replace hTT : Hid _ := hTT
      replace hcut : Hid _ := hcut
      rw [hl] at hLet
      go_enter Tryz.func29, Tryz.ntmps29
      go_wp2_with (first | (go_at_call 65; refine (hRow _).mono ?_; rintro e w' ⟨rfl, rfl⟩) | (go_at_call 66; refine (hLet _).mono ?_; rintro e w' ⟨rfl, rfl⟩))
      exact bodyPost_ret (res37 rfl rfl rfl (alloc_new _ _)) rfl ⟨⟨_, _, _, _, _, rfl, by rw [← hTT.out]; rfl⟩, hb0⟩
    · have h16' : ¬ (16 : Int) < (n : Int) := by omega
      rw [if_neg h16] at hTT
      replace hTT : Hid _ := hTT
      replace hcut : Hid _ := hcut
      rw [hl] at hLet
      go_enter Tryz.func29, Tryz.ntmps29
      go_wp2_with (first | (go_at_call 65; refine (hRow _).mono ?_; rintro e w' ⟨rfl, rfl⟩) | (go_at_call 66; refine (hLet _).mono ?_; rintro e w' ⟨rfl, rfl⟩))
      exact bodyPost_ret (res37 rfl rfl rfl (alloc_new _ _)) rfl ⟨⟨_, _, _, _, _, rfl, by rw [← hTT.out]; exact ⟨rfl, hcut.out, rfl, rfl, rfl⟩⟩, ext_alloc (Below.refl _ _) _⟩
end Go.Proofs.YtbofdfdmikhanaaGreatDoor
