/- LexTells, walked. -/
import Derived.Test.YtkcieeckndimpaaDoorLK
namespace Go.Proofs.YtkcieeckndimpaaDoor
open Go.RowKit
open Go

theorem scan_any (s : ByteArray) (w : World) (hE : ErrV w) : Calls Tryd.prog 18 #[.string s] w (Out w (scanAll s.data.toList)) := by
  have hl : s.data.toList.length = s.size := by simp
  unfold scanAll
  rw [hl]
  by_cases h : 4000 < s.size
  · rw [if_pos h]; exact scan_big s h w
  · rw [if_neg h]; exact scan_ok s (by omega) w hE
theorem rscan_any (s : ByteArray) (w : World) : Calls Tryd.prog 19 #[.string s] w (Out w (scanAll s.data.toList)) := by
  have hl : s.data.toList.length = s.size := by simp
  unfold scanAll
  rw [hl]
  by_cases h : 4000 < s.size
  · rw [if_pos h]; exact rscan_big s h w
  · rw [if_neg h]; exact rscan_ok s (by omega) w

/-- Tokens that can be read. -/
def Reads (W : World) (b : Option Addr) (ts : List Tok) : Prop :=
  ∀ j x, ts[j]? = some x → ∃ g, b = some ⟨g, 0, none⟩ ∧ W.cell? ⟨g, j * 3, none⟩ = some (.int .i64 x.k) ∧ W.cell? ⟨g, j * 3 + 1, none⟩ = some (.string x.b) ∧ W.cell? ⟨g, j * 3 + 2, none⟩ = some (.int .i64 (x.a : Nat))
theorem Reads.on {W W' : World} {b : Option Addr} {ts : List Tok} (h : Reads W b ts) (hb : Below W.heap.size W W') : Reads W' b ts := fun j x hx => by
  obtain ⟨g, e, h0, h1, h2⟩ := h j x hx
  have l0 := World.block_lt_of_cell? _ _ h0
  exact ⟨g, e, (hb.cell (p := ⟨g, j * 3, none⟩) l0).trans h0, (hb.cell (p := ⟨g, j * 3 + 1, none⟩) l0).trans h1, (hb.cell (p := ⟨g, j * 3 + 2, none⟩) l0).trans h2⟩
theorem reads_of {base : Nat} {W : World} {b : Option Addr} {n d : Nat} {ts : List Tok} (h : W.ownsRow base 39 3 (.slice b n d) ts.length (flatT ts)) : n = ts.length ∧ Reads W b ts := by
  rcases h.2 with ⟨e, h0⟩ | ⟨g, cap, cur, e, _, hg, _, _, _, ht⟩
  · cases e
    have : ts = [] := List.length_eq_zero_iff.1 h0
    subst this
    exact ⟨rfl, fun j x hx => by simp at hx⟩
  · cases e
    refine ⟨rfl, fun j x hj => ⟨g, rfl, ?_⟩⟩
    have hjl : j < ts.length := (List.getElem?_eq_some_iff.1 hj).1
    have cell : ∀ i, i < 3 → W.cell? ⟨g, j * 3 + i, none⟩ = (trioT x)[i]? := fun i hi => by
      rw [← flatT_get hj i hi, ← ht]
      rw [List.getElem?_take_of_lt (by omega)]
      simp [World.cell?, hg]
    exact ⟨cell 0 (by omega), cell 1 (by omega), cell 2 (by omega)⟩

theorem toks_len : ∀ (m : Nat) (l : List UInt8) (a : Nat), l.length ≤ m → (toksOf (scanR a l)).length ≤ l.length
  | 0, l, a, h => by
    obtain rfl : l = [] := List.eq_nil_of_length_eq_zero (by omega)
    rw [scanR_nil]; simp [toksOf]
  | m + 1, l, a, h => by
    by_cases h0 : l = []
    · subst h0; rw [scanR_nil]; simp [toksOf]
    by_cases h1 : gap1 l = 0
    · cases ht : tokR l using TokR.byCases with
      | bad e => rw [scanR_bad h0 h1 ht]; simp [toksOf]
      | tok k t n =>
        have hs := tok_size ht
        have ih := toks_len m (l.drop n) (a + n) (by simp; omega)
        rw [scanR_tok h0 h1 ht]
        simp at ih
        cases hq : scanR (a + n) (l.drop n) using ScanR.byCases with
        | bad e p => simp [ScanR.pre, toksOf]
        | toks us =>
          rw [hq] at ih
          simp [ScanR.pre, toksOf] at ih ⊢
          omega
    · have h2 := gap1_le l
      have ih := toks_len m (l.drop (gap1 l)) (a + gap1 l) (by simp; omega)
      rw [scanR_gap h1]
      simp at ih
      omega
theorem all_len (l : List UInt8) : (toksOf (scanAll l)).length ≤ 4000 := by
  unfold scanAll
  by_cases h : 4000 < l.length
  · rw [if_pos h]; simp [toksOf]
  · rw [if_neg h]
    have := toks_len l.length l 0 (Nat.le_refl _)
    omega

set_option maxRecDepth 20000 in
set_option maxHeartbeats 2000000 in
theorem lextells_any (s : ByteArray) (w : World) (hE : ErrV w) :
    Calls Tryd.prog 7 #[.string s] w fun e w' => e = .returned (.bool true) ∧ Below w.heap.size w w' := by
  have hA := scan_any s w hE
  have hB := fun u => rscan_any s u
  have hn := all_len s.data.toList
  obtain ⟨R, hR⟩ : ∃ R, scanAll s.data.toList = R := ⟨_, rfl⟩
  rw [hR] at hA hB hn
  clear hR
  go_enter Tryd.func7, Tryd.ntmps7
  go_wp2_with (first | (go_at_call 18; refine hA.mono ?_; rintro e w1 ⟨⟨b, n, d, rfl, hown⟩, hb⟩) | (go_at_call 19; refine (hB _).mono ?_; rintro e w2 ⟨⟨b', n', d', rfl, hown'⟩, hb'⟩; refine Hid.out ?_))
  obtain ⟨c, hc⟩ : ∃ c, codeOf R = c := ⟨_, rfl⟩
  obtain ⟨p, hp⟩ : ∃ p, placeOf R = p := ⟨_, rfl⟩
  obtain ⟨ts, hts⟩ : ∃ ts, toksOf R = ts := ⟨_, rfl⟩
  rw [hc, hp] at hb'
  rw [hc, hp]
  rw [hts] at hown hown' hn
  clear hA hB hc hp hts
  have hx1 := block_below hb' (alloc_new w1 (.cells #[.int .i64 c, .int .i64 (p : Nat)] 35))
  have hx2 := alloc_new w2 (.cells #[.int .i64 c, .int .i64 (p : Nat)] 35)
  have hx1' := block_alloc (.cells #[.int .i64 c, .int .i64 (p : Nat)] 35) hx1
  obtain ⟨rfl, hr1⟩ := reads_of hown
  obtain ⟨rfl, hr2⟩ := reads_of hown'
  have hbb : Below w.heap.size w w2 := ext_trans (ext_alloc hb _) hb'
  have hr1' := ((hr1.on (ext_alloc (Below.refl _ _) _)).on hb').on (ext_alloc (Below.refl _ _) (.cells #[.int .i64 c, .int .i64 (p : Nat)] 35))
  have hr2' := hr2.on (ext_alloc (Below.refl _ _) (.cells #[.int .i64 c, .int .i64 (p : Nat)] 35))
  have hbW := ext_alloc hbb (.cells #[.int .i64 c, .int .i64 (p : Nat)] 35)
  have hl1 := block_lt hx1
  have x0 : w2.cell? ⟨w1.heap.size, 0, none⟩ = some (.int .i64 c) := cell_block hx1 rfl
  have x1 : w2.cell? ⟨w1.heap.size, 1, none⟩ = some (.int .i64 (p : Nat)) := cell_block hx1 rfl
  clear hx1 hx2 hx1' hr1 hr2 hown hown' hb hb' hbb
  refine Lib.hid ?_
  go_wp2
  go_loopw [7] (fun i wr => ∃ k : Nat, k ≤ ts.length ∧ i = .int .i64 k ∧ Below w.heap.size w wr ∧ Reads wr b ts ∧ Reads wr b' ts) (fun i _ => ts.length - (intOf i).toNat)
  case atStart => exact ⟨0, Nat.zero_le _, rfl, hbW, hr1', hr2'⟩
  case round =>
    clear hbW hr1' hr2' x0 x1 hl1
    obtain ⟨k, hk, rfl, hb, hr1, hr2⟩ := hrel
    by_cases hlt : k < ts.length
    · obtain ⟨x, hx⟩ : ∃ x, ts[k]? = some x := ⟨ts[k], by simp [hlt]⟩
      obtain ⟨g, rfl, a0, a1, a2⟩ := hr1 k x hx
      obtain ⟨g', rfl, b0, b1, b2⟩ := hr2 k x hx
      have hk0 : (0 : Int) ≤ (k : Int) := by omega
      have hk1 : (k : Int) < (ts.length : Int) := by omega
      replace hr1 : Hid _ := hr1
      replace hr2 : Hid _ := hr2
      clear hx
      go_wp2
      go_quiet (fail)
      go_wp2
      go_roundw
      case rel => exact ⟨k + 1, by omega, by go_num, below_drewN hb nq, Reads.on hr1.out (below_drewN (Below.refl _ _) nq), Reads.on hr2.out (below_drewN (Below.refl _ _) nq)⟩
      case measure => simp [intOf]; omega
    · have hk1 : ¬ (k : Int) < (ts.length : Int) := by omega
      go_wp2
      go_ret
      exact ⟨rfl, hb⟩
end Go.Proofs.YtkcieeckndimpaaDoor
