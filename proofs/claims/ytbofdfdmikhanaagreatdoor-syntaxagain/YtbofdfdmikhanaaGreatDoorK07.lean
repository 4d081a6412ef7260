/- What is read of a program, written, and read again, in plain words. SyntaxAgain, walked. -/
import Derived.Test.YtbofdfdmikhanaaGreatDoorK06
import Derived.Test.YtbofdfdmikhanaaGreatDoorJ43
import Derived.Test.YtbofdfdmikhanaaGreatDoorJ12
namespace Go.Proofs.YtbofdfdmikhanaaGreatDoor
open Go.RowKit
open Go

theorem Q_of {tag : Nat} {x : Nd} {a : Nat} {l : List PT} {r : List PT ⊕ (Nd × List PT)} (f : Nat) (h : P f tag x a l = some r) : Q tag x a l r := ⟨f, h⟩
theorem parse_inr {l : List UInt8} {n : Nd} (h : parseR l = .inr n) : ∃ ts q, scanAll l = .inr ts ∧ P 64012 12 (nd 1 []) 0 (ts.map pt) = some (.inr (n, q)) ∧ fitB n = true := by
  have hf := parse_fit h
  unfold parseR at h
  split at h
  · cases h
  · rename_i ts hs
    split at h
    · cases h
    · cases h
    · rename_i m q hP
      cases hm : fitB m with
      | true => rw [hm, if_pos rfl] at h; cases h; exact ⟨ts, q, hs, hP, hm⟩
      | false => rw [hm, if_neg (by decide)] at h; cases h
theorem parse_code {l : List UInt8} {c : Int} {a : Nat} (h : parseR l = .inl (c, a)) : c ≠ 0 := by
  unfold parseR at h
  split at h
  · rename_i x hs
    cases h
    exact code_of hs
  · rename_i ts hs
    obtain ⟨_, _, r, hr⟩ := toks_of hs
    rw [hr] at h
    cases r with
    | inl q => cases h; decide
    | inr p =>
      obtain ⟨m, q⟩ := p
      dsimp only at h
      split at h
      · cases h
      · cases h; decide
theorem scan_text_of {n : Nd} (hn : isN n) (hl : (textT (showT n)).length ≤ 4000) : ∃ ts, scanAll (textT (showT n)) = .inr ts ∧ ts.map pt = showT n := by
  obtain ⟨us, h1, h2⟩ := print_scan hn
  refine ⟨us, ?_, h2⟩
  unfold scanAll
  rw [if_neg (by omega)]
  exact h1
theorem parse_of {l : List UInt8} {ts : List Tok} {n : Nd} (hs : scanAll l = .inr ts) (ht : ts.map pt = showT n) (hn : isN n) (hk : n.k = 1) (hf : fitB n = true) : parseR l = .inr n := by
  obtain ⟨_, _, r, hr⟩ := toks_of hs
  have hq := unit_read hn hk
  rw [ht] at hr
  have e := Q_det (Q_of _ hr) hq
  subst e
  unfold parseR
  rw [hs]
  dsimp only
  rw [ht, hr]
  dsimp only
  rw [hf, if_pos rfl]
theorem parse_again {l : List UInt8} {n : Nd} (h : parseR l = .inr n) : isK 1 n ∧ (textT (showT n)).length ≤ 2 * l.length ∧ l.length ≤ 4000 ∧ ((textT (showT n)).length ≤ 4000 → parseR (textT (showT n)) = .inr n) := by
  obtain ⟨ts, q, hs, hP, hf⟩ := parse_inr h
  have hs' := hs
  unfold scanAll at hs'
  split at hs'
  · cases hs'
  rename_i h4
  obtain ⟨hv, hc⟩ := scan_valid l.length l 0 ts (Nat.le_refl _) hs'
  obtain ⟨h1, h2, h3⟩ := unit_sound (Q_of _ hP) hv
  refine ⟨⟨h1, h2⟩, Nat.le_trans h3 hc, by omega, fun h5 => ?_⟩
  obtain ⟨us, h6, h7⟩ := scan_text_of h1 h5
  exact parse_of h6 h7 h1 h2 hf
/-- function f()end -/
def knownL : List UInt8 := [102, 117, 110, 99, 116, 105, 111, 110, 32, 102, 40, 41, 101, 110, 100]
def knownN : Nd := ⟨1, [], 0, [⟨2, [102], 0, [⟨4, [], 0, []⟩]⟩]⟩
theorem known_is : isK 1 knownN := by
  refine isk1.2 ⟨⟨rfl, rfl⟩, fun y hy => ?_⟩
  simp at hy
  subst hy
  refine isk2.2 ⟨⟨rfl, by decide⟩, by simp, by simp, fun y hy => ?_⟩
  simp at hy
  subst hy
  exact isk4.2 ⟨⟨rfl, rfl⟩, by simp⟩
theorem known_text : textT (showT knownN) = [102, 117, 110, 99, 116, 105, 111, 110, 32, 102, 32, 40, 32, 41, 32, 101, 110, 100] := by decide
theorem known_scan : scanAll knownL = .inr [⟨1, [102, 117, 110, 99, 116, 105, 111, 110], 0⟩, ⟨1, [102], 9⟩, ⟨4, [40], 10⟩, ⟨4, [41], 11⟩, ⟨1, [101, 110, 100], 12⟩] := by kernel_rfl
theorem known_fit : fitB knownN = true := by decide
theorem known_parse : parseR knownL = .inr knownN := parse_of known_scan (by decide) known_is.1 known_is.2 known_fit
end Go.Proofs.YtbofdfdmikhanaaGreatDoor
namespace Go.Proofs.YtbofdfdmikhanaaGreatDoor
open Go.RowKit
open Go

/-- What a Parse of such a text answers. -/
def PaC (s : List UInt8) (n : Nd) (w : World) : Prop := ∀ u, Below w.heap.size w u → Calls Tryz.prog 7 #[sk s] u fun e w' => ∃ b cap, e = .returned (.tuple #[ndv n b cap, .agg #[.int .i64 0, .int .i64 0]]) ∧ NdV (fun g => u.heap.size ≤ g) w' n (ndv n b cap) ∧ Below u.heap.size u w'
/-- What a Print of such a node answers. -/
def PrC (n : Nd) (t : List UInt8) (c : Int) (w : World) : Prop := ∀ u (S : Nat → Prop) b cap, Below w.heap.size w u → NdV S u n (ndv n b cap) → Calls Tryz.prog 10 #[ndv n b cap] u fun e w' => e = .returned (.tuple #[sk t, .int .i64 c]) ∧ Below u.heap.size u w'
abbrev ftb (c a : Int) : Obj := .cells #[.int .i64 c, .int .i64 a] 27
set_option maxRecDepth 20000 in
set_option maxHeartbeats 2000000 in
theorem again_bad (s : ByteArray) (w : World) (c a : Int) (hc : c ≠ 0) (kn : Nd) (h0 : PaC [102, 117, 110, 99, 116, 105, 111, 110, 32, 102, 40, 41, 101, 110, 100] kn w) (h1 : PrC kn [102, 117, 110, 99, 116, 105, 111, 110, 32, 102, 32, 40, 32, 41, 32, 101, 110, 100] 0 w) (h2 : ∀ u, Below w.heap.size w u → Calls Tryz.prog 7 #[.string s] u fun e w' => ∃ b cap, e = .returned (.tuple #[ndv nil0 b cap, .agg #[.int .i64 c, .int .i64 a]]) ∧ Below u.heap.size u w') : Calls Tryz.prog 6 #[.string s] w fun e w' => e = .returned (.bool true) ∧ Below w.heap.size w w' := by
  have hc' : (c == 0) = false := by simpa using hc
  go_enter Tryz.func6, Tryz.ntmps6
  go_wp2_with (first | (go_at_call 7; refine (h2 _ hb2w).mono ?_; rintro e w3 ⟨b3, cap3, rfl, hb3⟩; have hb3w := ext_trans hb2w hb3) | (go_at_call 10; refine (h1 _ _ _ _ (ext_trans hb1 (below2 w1 (nbx kn b1 cap1) (ftb 0 0))) (hN1.below (below2 w1 (nbx kn b1 cap1) (ftb 0 0)))).mono ?_; rintro e w2 ⟨rfl, hb2⟩; have hb2w := ext_trans (ext_trans hb1 (below2 w1 (nbx kn b1 cap1) (ftb 0 0))) hb2) | (go_at_call 7; refine (h0 _ (Below.refl _ _)).mono ?_; rintro e w1 ⟨b1, cap1, rfl, hN1, hb1⟩))
  go_ret
  exact ⟨rfl, ext_trans hb3w (below2 w3 _ _)⟩
set_option maxRecDepth 20000 in
set_option maxHeartbeats 2000000 in
theorem again_long (s : ByteArray) (w : World) (kn n : Nd) (h0 : PaC [102, 117, 110, 99, 116, 105, 111, 110, 32, 102, 40, 41, 101, 110, 100] kn w) (h1 : PrC kn [102, 117, 110, 99, 116, 105, 111, 110, 32, 102, 32, 40, 32, 41, 32, 101, 110, 100] 0 w) (h2 : ∀ u, Below w.heap.size w u → Calls Tryz.prog 7 #[.string s] u fun e w' => ∃ b cap, e = .returned (.tuple #[ndv n b cap, .agg #[.int .i64 0, .int .i64 0]]) ∧ NdV (fun g => u.heap.size ≤ g) w' n (ndv n b cap) ∧ Below u.heap.size u w') (h3 : PrC n [] 1 w) (hlen : 1333 < s.size) : Calls Tryz.prog 6 #[.string s] w fun e w' => e = .returned (.bool true) ∧ Below w.heap.size w w' := by
  have hl' : (1333 : Int) < (s.size : Int) := by omega
  go_enter Tryz.func6, Tryz.ntmps6
  go_wp2_with (first | (go_at_call 10; refine (h3 _ _ _ _ (ext_trans hb3w (below2 w3 (nbx n b3 cap3) (ftb 0 0))) (hN3.below (below2 w3 (nbx n b3 cap3) (ftb 0 0)))).mono ?_; rintro e w4 ⟨rfl, hb4⟩; have hb4w := ext_trans (ext_trans hb3w (below2 w3 (nbx n b3 cap3) (ftb 0 0))) hb4) | (go_at_call 7; refine (h2 _ hb2w).mono ?_; rintro e w3 ⟨b3, cap3, rfl, hN3, hb3⟩; have hb3w := ext_trans hb2w hb3) | (go_at_call 10; refine (h1 _ _ _ _ (ext_trans hb1 (below2 w1 (nbx kn b1 cap1) (ftb 0 0))) (hN1.below (below2 w1 (nbx kn b1 cap1) (ftb 0 0)))).mono ?_; rintro e w2 ⟨rfl, hb2⟩; have hb2w := ext_trans (ext_trans hb1 (below2 w1 (nbx kn b1 cap1) (ftb 0 0))) hb2) | (go_at_call 7; refine (h0 _ (Below.refl _ _)).mono ?_; rintro e w1 ⟨b1, cap1, rfl, hN1, hb1⟩))
  go_ret
  exact ⟨rfl, hb4w⟩
set_option maxRecDepth 20000 in
set_option maxHeartbeats 2000000 in
theorem again_ok (s : ByteArray) (w : World) (kn n : Nd) (h0 : PaC [102, 117, 110, 99, 116, 105, 111, 110, 32, 102, 40, 41, 101, 110, 100] kn w) (h1 : PrC kn [102, 117, 110, 99, 116, 105, 111, 110, 32, 102, 32, 40, 32, 41, 32, 101, 110, 100] 0 w) (h2 : ∀ u, Below w.heap.size w u → Calls Tryz.prog 7 #[.string s] u fun e w' => ∃ b cap, e = .returned (.tuple #[ndv n b cap, .agg #[.int .i64 0, .int .i64 0]]) ∧ NdV (fun g => u.heap.size ≤ g) w' n (ndv n b cap) ∧ Below u.heap.size u w') (tx : List UInt8) (h3 : PrC n tx 0 w) (h4 : PaC tx n w) : Calls Tryz.prog 6 #[.string s] w fun e w' => e = .returned (.bool true) ∧ Below w.heap.size w w' := by
  go_enter Tryz.func6, Tryz.ntmps6
  go_wp2_with (first | (go_at_call 10; refine (h3 _ _ _ _ (ext_trans hb5w (below2 w5 (nbx n b5 cap5) (ftb 0 0))) (hN5.below (below2 w5 (nbx n b5 cap5) (ftb 0 0)))).mono ?_; rintro e w6 ⟨rfl, hb6⟩; have hb6w := ext_trans (ext_trans hb5w (below2 w5 (nbx n b5 cap5) (ftb 0 0))) hb6; have gg := block_below hb6 (new2 w5 (nbx n b5 cap5) (ftb 0 0)).2; obtain ⟨p0, p1, r0, r1⟩ := in2 gg) | (go_at_call 7; refine (h4 _ hb4w).mono ?_; rintro e w5 ⟨b5, cap5, rfl, hN5, hb5⟩; have hb5w := ext_trans hb4w hb5) | (go_at_call 10; refine (h3 _ _ _ _ (ext_trans hb3w (below2 w3 (nbx n b3 cap3) (ftb 0 0))) (hN3.below (below2 w3 (nbx n b3 cap3) (ftb 0 0)))).mono ?_; rintro e w4 ⟨rfl, hb4⟩; have hb4w := ext_trans (ext_trans hb3w (below2 w3 (nbx n b3 cap3) (ftb 0 0))) hb4) | (go_at_call 7; refine (h2 _ hb2w).mono ?_; rintro e w3 ⟨b3, cap3, rfl, hN3, hb3⟩; have hb3w := ext_trans hb2w hb3) | (go_at_call 10; refine (h1 _ _ _ _ (ext_trans hb1 (below2 w1 (nbx kn b1 cap1) (ftb 0 0))) (hN1.below (below2 w1 (nbx kn b1 cap1) (ftb 0 0)))).mono ?_; rintro e w2 ⟨rfl, hb2⟩; have hb2w := ext_trans (ext_trans hb1 (below2 w1 (nbx kn b1 cap1) (ftb 0 0))) hb2) | (go_at_call 7; refine (h0 _ (Below.refl _ _)).mono ?_; rintro e w1 ⟨b1, cap1, rfl, hN1, hb1⟩))
  go_ret
  exact ⟨rfl, hb6w⟩
theorem pac_of {l : List UInt8} {n : Nd} (h : parseR l = .inr n) (w : World) (hE : ErrV w) (hsp : SpTab w) : PaC l n w := fun u hb => by
  have := parse_any ⟨l.toArray⟩ u (hE.on hb) (hsp.below hb)
  rw [show (⟨l.toArray⟩ : ByteArray).data.toList = l by simp, h] at this
  exact pout_node this
theorem prc_of {l : List UInt8} {n : Nd} (h : parseR l = .inr n) (w : World) (hE : ErrV w) (hsp : SpTab w) (hp : Lib.TabIs Tryz.prog w "internal/strconv.uint64pow10" .u64 Lib.pow10Tab) : PrC n (if 4000 < (textT (showT n)).length then [] else textT (showT n)) (if 4000 < (textT (showT n)).length then 1 else 0) w := fun u S b cap hb hN => by
  obtain ⟨h1, h2, h3, _⟩ := parse_again h
  exact print_yes n (parse_fit h) h1 S b cap u (hE.on hb) (hsp.below hb) (Go.Joins.tab_stays (g := 5) (by kernel_rfl) hp hb (Nat.le_refl _)) hN (by omega)
theorem again_any (s : ByteArray) (w : World) (hE : ErrV w) (hsp : SpTab w) (hp : Lib.TabIs Tryz.prog w "internal/strconv.uint64pow10" .u64 Lib.pow10Tab) : Calls Tryz.prog 6 #[.string s] w fun e w' => e = .returned (.bool true) ∧ Below w.heap.size w w' := by
  have h0 : PaC [102, 117, 110, 99, 116, 105, 111, 110, 32, 102, 40, 41, 101, 110, 100] knownN w := pac_of known_parse w hE hsp
  have h1 := prc_of known_parse w hE hsp hp
  rw [known_text, if_neg (by decide), if_neg (by decide)] at h1
  have esz : s.data.toList.length = s.size := by simp
  cases hR : parseR s.data.toList with
  | inl x =>
    obtain ⟨c, a⟩ := x
    refine again_bad s w c a (parse_code hR) knownN h0 h1 (fun u hb => ?_)
    have := parse_any s u (hE.on hb) (hsp.below hb)
    rw [hR] at this
    exact (pout_fault this).mono fun e w' h => by
      obtain ⟨b, cap, h1, _, h3⟩ := h
      exact ⟨b, cap, h1, h3⟩
  | inr n =>
    have h2 : ∀ u, Below w.heap.size w u → Calls Tryz.prog 7 #[.string s] u fun e w' => ∃ b cap, e = .returned (.tuple #[ndv n b cap, .agg #[.int .i64 0, .int .i64 0]]) ∧ NdV (fun g => u.heap.size ≤ g) w' n (ndv n b cap) ∧ Below u.heap.size u w' := fun u hb => by
      have := parse_any s u (hE.on hb) (hsp.below hb)
      rw [hR] at this
      exact pout_node this
    have h3 := prc_of hR w hE hsp hp
    obtain ⟨_, hlen, hl4, hag⟩ := parse_again hR
    by_cases h4 : 4000 < (textT (showT n)).length
    · rw [if_pos h4, if_pos h4] at h3
      exact again_long s w knownN n h0 h1 h2 h3 (by omega)
    · rw [if_neg h4, if_neg h4] at h3
      exact again_ok s w knownN n h0 h1 h2 _ h3 (pac_of (hag (by omega)) w hE hsp)
end Go.Proofs.YtbofdfdmikhanaaGreatDoor
