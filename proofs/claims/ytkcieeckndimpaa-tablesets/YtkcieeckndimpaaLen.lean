/- Len. -/
import Derived.Test.YtkcieeckndimpaaNext
namespace Go.Proofs.Ytkcieeckndimpaa
open Go.RowKit Go.Shelf
open Go

set_option linter.unusedSectionVars false
variable [DecidableEq Vl]

/-- The number i, as a value. -/
def numV (i : Nat) : Vl := if h : i ≤ 1000 then ⟨2, i, E0, by decide, WalkArith.wf_i64 (by omega), by decide⟩ else nilV
theorem numV_eq {i : Nat} (h : i ≤ 1000) : (numV i).v = val 2 i E0 := by simp [numV, h]

theorem numV_inj {i j : Nat} (hi : i ≤ 1000) (hj : j ≤ 1000) (h : numV i = numV j) : i = j := by
  have : (numV i).n = (numV j).n := by rw [h]
  simp [numV, hi, hj] at this
  omega

theorem length_le {l m : List Vl} (hn : l.Nodup) (h : ∀ x ∈ l, x ∈ m) : l.length ≤ m.length := by
  induction l generalizing m with
  | nil => simp
  | cons a l ih =>
    obtain ⟨h1, h2⟩ := List.nodup_cons.1 hn
    have hm := h a (by simp)
    have := ih (m := m.erase a) h2 (fun x hx => (List.mem_erase_of_ne (fun e => h1 (by rw [← e]; exact hx))).2 (h x (by simp [hx])))
    rw [List.length_erase_of_mem hm] at this
    have := List.length_pos_of_mem hm
    simp; omega

/-- How far the numbers from 1 on are keys. -/
def IsLen (xs : List Vl) (n : Nat) : Prop := (∀ j, j < n → numV (j + 1) ∈ xs) ∧ ¬ numV (n + 1) ∈ xs

theorem run_le {xs : List Vl} {n : Nat} (hx : xs.length ≤ 100) (h : ∀ j, j < n → numV (j + 1) ∈ xs) : n ≤ xs.length := by
  have key : ∀ k, k ≤ n → k ≤ 101 → k ≤ xs.length := fun k hk hk' => by
    have := length_le (l := (List.range k).map (fun j => numV (j + 1))) (m := xs) (by
      rw [List.nodup_iff_pairwise_ne, List.pairwise_map]
      refine List.Pairwise.imp_of_mem ?_ List.nodup_range
      intro i j hi hj hne e
      simp at hi hj
      exact hne (by have := numV_inj (by omega) (by omega) e; omega)) (by
      intro x hm
      obtain ⟨j, hj, rfl⟩ := List.mem_map.1 hm
      exact h j (by simp at hj; omega))
    simpa using this
  by_cases hn : n ≤ 101
  · exact key n (Nat.le_refl _) hn
  · have := key 101 (by omega) (Nat.le_refl _); omega

theorem isLen_unique {xs : List Vl} {n m : Nat} (h : IsLen xs n) (k : IsLen xs m) : n = m := by
  rcases Nat.lt_trichotomy n m with hl | hl | hl
  · exact absurd (k.1 n hl) h.2
  · exact hl
  · exact absurd (h.1 m hl) k.2

theorem number_any (n : Int) (w : World) : Calls Try.prog 24 #[.int .i64 n] w fun e w' => e = .returned (val 2 n E0) ∧ w' = w.alloc (box 2 n E0) := by
  go_enter Try.func24, Try.ntmps24
  go_wp2
  exact bodyPost_ret (v := val 2 n E0) (by simp [results, Try.results24, go_sem]) rfl ⟨rfl, rfl⟩

set_option maxRecDepth 100000 in
set_option maxHeartbeats 2000000 in
theorem len_no (ks vs : Value) (xs ys : List Vl) (w : World) (hT : Tab w.heap.size w ks vs xs ys) (h : mayT xs ys = false) :
    Calls Try.prog 11 #[.agg #[ks, vs]] w fun e w' => e = .returned (.int .i64 0) ∧ Below w.heap.size w w' := by
  obtain ⟨a, c1, rfl⟩ := hT.keys.slice
  obtain ⟨a', c2, rfl⟩ := hT.vals.slice
  have hb0 : Below w.heap.size w (w.alloc (.cells #[.slice a xs.length c1, .slice a' ys.length c2] 24)) := (Below.refl _ w).alloc (Nat.le_refl _) _
  have hC := tmay_f h (.slice a xs.length c1) (.slice a' ys.length c2) _ ((hT.below hb0).mono hb0.size)
  clear hT h
  go_enter Try.func11, Try.ntmps11
  go_wp2_with (go_at_call 12; refine hC.mono ?_; rintro e w1 ⟨rfl, hb1⟩)
  go_ret
  exact ⟨rfl, hb0.trans (hb1.mono hb0.size)⟩

set_option maxRecDepth 100000 in
set_option maxHeartbeats 2000000 in
theorem len_yes (ks vs : Value) (zs : List (Vl × Vl)) (hlen : zs.length ≤ 100) (w : World) (hT : Tab w.heap.size w ks vs (keysOf zs) (valsOf zs)) (h : mayT (keysOf zs) (valsOf zs) = true) :
    Calls Try.prog 11 #[.agg #[ks, vs]] w fun e w' => (∃ m : Nat, IsLen (keysOf zs) m ∧ e = .returned (.int .i64 m)) ∧ Below w.heap.size w w' := by
  obtain ⟨a, c1, hks⟩ := hT.keys.slice
  obtain ⟨a', c2, hvs⟩ := hT.vals.slice
  simp only [keysOf, valsOf, List.length_map] at hks hvs
  subst hks hvs
  have hb0 : Below w.heap.size w (w.alloc (.cells #[.slice a zs.length c1, .slice a' zs.length c2] 24)) := (Below.refl _ w).alloc (Nat.le_refl _) _
  have hC := tmay_t h (.slice a zs.length c1) (.slice a' zs.length c2) _ ((hT.below hb0).mono hb0.size)
  have ht0 := World.alloc_heap_new w (.cells #[.slice a zs.length c1, .slice a' zs.length c2] 24)
  clear h
  go_enter Try.func11, Try.ntmps11
  go_wp2_with (go_at_call 12; refine hC.mono ?_; rintro e w1 ⟨rfl, hb1⟩; refine Hid.out ?_)
  have hb01 := hb0.trans (hb1.mono hb0.size)
  have hC2 := callsIn_wide.1 (seen_in 3 (by omega) (.slice a zs.length c1) (.slice a' zs.length c2) zs hlen w1 ((hT.below hb01).mono hb01.size))
  have ht1 := block_below hb1 ht0
  have x0 : w1.cell? ⟨w.heap.size, 0, none⟩ = some (.slice a zs.length c1) := cell_block ht1 rfl
  have x1 : w1.cell? ⟨w.heap.size, 1, none⟩ = some (.slice a' zs.length c2) := cell_block ht1 rfl
  clear hC hb1 hb0 ht0 ht1 hT
  refine Lib.hid ?_
  go_wp2_with (go_at_call 23; refine hC2.mono ?_; rintro e w2 ⟨rfl, hown, hb2⟩; refine Hid.out ?_)
  have hb02 := hb01.trans (hb2.mono hb01.size)
  clear hC2 x0 x1 hb01 hb2
  refine Lib.hid ?_
  go_wp2
  go_loopw [3] (fun i wr => ∃ m : Nat, i = .int .i64 m ∧ (∀ j, j < m → numV (j + 1) ∈ keysOf zs) ∧ wr.ownsMap Try.prog 26 (plainElem (H := Unit) Try.prog 3) (w1.heap.size + 1) zs.length (tally (keysOf zs)) ∧ Below w.heap.size w wr) (fun i _ => 101 - (intOf i).toNat)
  case atStart => exact ⟨0, rfl, fun j hj => by omega, hown, hb02⟩
  case round =>
    obtain ⟨m, rfl, hj, ho, hb⟩ := hrel
    have hm := run_le (by simpa using hlen) hj
    simp only [keysOf, List.length_map] at hm
    obtain ⟨c, hat, hc0, hc1, hc2⟩ := at_tally (keysOf zs) (by simp; omega) (numV (m + 1))
    obtain ⟨c', hl, hat', _⟩ := (ho.alloc (box 2 (m + 1) E0)).lookup_int keyed Try.underlying45 Try.underlying3 (Try.zeroValue3 _) (keyOf_v (numV (m + 1)))
    rw [hat] at hat'
    cases hat'
    rw [numV_eq (by omega)] at hl
    push_cast at hl
    clear hown hb02 hat
    by_cases hpos : 0 < c
    · have hq : Hid (numV (m + 1) ∈ keysOf zs) := hc2.1 hpos
      replace hj : Hid _ := hj
      clear hc2
      go_wp2_with (go_at_call 24; refine (number_any _ _).mono ?_; rintro e w3 ⟨rfl, rfl⟩)
      refine ⟨⟨m + 1, by simp, fun j hlt => ?_, ho.alloc _, hb.alloc hb.size _⟩, by simp [intOf]; omega⟩
      rcases Nat.lt_or_ge j m with h | h
      · exact hj.out j h
      · obtain rfl : j = m := by omega
        exact hq.out
    · have hq : Hid (¬ numV (m + 1) ∈ keysOf zs) := fun hm => hpos (hc2.2 hm)
      replace hj : Hid _ := hj
      clear hc2
      go_wp2_with (go_at_call 24; refine (number_any _ _).mono ?_; rintro e w3 ⟨rfl, rfl⟩)
      go_ret
      exact ⟨⟨m, ⟨hj.out, hq.out⟩, rfl⟩, hb.alloc hb.size _⟩

/-- Len, whatever the table. -/
def LenT (xs ys : List Vl) (m : Nat) : Prop := if mayT xs ys = true then IsLen xs m else m = 0
theorem lenT_unique {xs ys : List Vl} {n m : Nat} (h : LenT xs ys n) (k : LenT xs ys m) : n = m := by
  unfold LenT at h k
  split at h
  · rw [if_pos (by assumption)] at k; exact isLen_unique h k
  · rw [if_neg (by assumption)] at k; rw [h, k]
theorem len_any (ks vs : Value) (xs ys : List Vl) (w : World) (hT : Tab w.heap.size w ks vs xs ys) :
    Calls Try.prog 11 #[.agg #[ks, vs]] w fun e w' => (∃ m : Nat, LenT xs ys m ∧ e = .returned (.int .i64 m)) ∧ Below w.heap.size w w' := by
  unfold LenT
  cases h : mayT xs ys
  · exact (len_no ks vs xs ys w hT h).mono fun e w' ⟨he, hb⟩ => ⟨⟨0, by simp, he⟩, hb⟩
  · obtain ⟨hl, hl'⟩ := mayT_len h
    have := len_yes ks vs (xs.zip ys) (by rw [List.length_zip]; omega) w (by rw [zip_keys hl, zip_vals hl]; exact hT) (by rw [zip_keys hl, zip_vals hl]; exact h)
    rw [zip_keys hl] at this
    exact this.mono fun e w' ⟨⟨m, hm, he⟩, hb⟩ => ⟨⟨m, by simpa using hm, he⟩, hb⟩

end Go.Proofs.Ytkcieeckndimpaa
