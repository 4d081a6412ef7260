/- The document's reader: what stands first: a number. The document's reader: what stands first, whole; expressions, by what is at hand. The document's reader: a statement, a block, whole; a function. The document's Parse. -/
import Derived.Test.YtnnppenlfocgiaaGreatDoorK36
import Derived.Test.YtnnppenlfocgiaaGreatDoorK28
import Derived.Test.YtnnppenlfocgiaaGreatDoorK38
import Derived.Test.YtnnppenlfocgiaaGreatDoorK37
import Derived.Test.YtnnppenlfocgiaaGreatDoorK33
import Derived.Test.YtnnppenlfocgiaaGreatDoorK42
namespace Go.Proofs.YtnnppenlfocgiaaGreatDoor
open Go.RowKit
open Go

theorem num_valid2 {t : List UInt8} (h : valid (2, t)) : t.all digB = true ∧ numV t ≤ 9223372036854775807 ∧ t.length ≤ 4000 := by
  obtain ⟨hp, hl⟩ := num_valid h
  have h1 := h.1
  have hb : bytesOf (2, t) = t := by unfold bytesOf; rw [if_neg (show ¬ (2 : Int) = 3 by decide)]
  rw [hb] at h1
  simp only at h1
  cases t with
  | nil => simp [tokR] at h1
  | cons c r =>
    unfold tokR at h1
    simp only at h1
    split at h1
    · split at h1
      · cases h1
      · exact absurd (TokR.inj h1).1 (by decide)
    split at h1
    · split at h1
      · rename_i hn
        obtain ⟨_, _, e3⟩ := TokR.inj h1
        rw [e3, List.take_length] at hn
        unfold numE at hn
        split at hn
        · exact absurd hn (by decide)
        rename_i ha
        split at hn
        · exact absurd hn (by decide)
        split at hn
        · exact absurd hn (by decide)
        rename_i hm
        exact ⟨by simpa using ha, by omega, hl⟩
      · cases h1
    split at h1
    · split at h1
      · split at h1
        · cases h1
        · exact absurd (TokR.inj h1).1 (by decide)
      · cases h1
    split at h1
    · cases h1
    · exact absurd (TokR.inj h1).1 (by decide)
theorem fold_ge (l : List UInt8) : ∀ a : Nat, a ≤ l.foldl (fun a c => a * 10 + (c.toNat - 48)) a := by
  induction l with
  | nil => intro a; exact Nat.le_refl _
  | cons c l ih => intro a; exact Nat.le_trans (show a ≤ a * 10 + (c.toNat - 48) by omega) (ih _)
theorem num_take (t : List UInt8) (j : Nat) : numV (t.take j) ≤ numV t := by
  have : numV t = (t.drop j).foldl (fun a c => a * 10 + (c.toNat - 48)) (numV (t.take j)) := by
    unfold numV
    rw [← List.foldl_append, List.take_append_drop]
  rw [this]
  exact fold_ge _ _
theorem num_next {t : List UInt8} {j : Nat} {c : UInt8} (h : t[j]? = some c) : numV (t.take (j + 1)) = numV (t.take j) * 10 + (c.toNat - 48) := by
  rw [List.take_add_one, h]
  unfold numV
  rw [List.foldl_append]
  rfl
set_option maxRecDepth 20000 in
set_option maxHeartbeats 2000000 in
theorem fst_num (B : Nat) (ts : List Tok) (i : Nat) (t : List UInt8) (a : Nat) (hx : ts[i]? = some ⟨2, t, a⟩) (r : PRes) (Fin : Nat → Prop) (g : Nd → List PT → PR) (w : World) (hF : FinOK ts Fin r) (hR : Dr w B ts i false) (hv : valid (2, t)) (hP : g ⟨13, [], numOf t, []⟩ (rest ts (i + 1)) = some r) : Calls Tryz.prog 123 #[.pointer (some ⟨B, 0, none⟩)] w (NA no w B ts Fin r g) := by
  have hb0 : Below w.heap.size w (w.alloc zbx) := ext_alloc (Below.refl _ _) _
  have hBw := hR.lt
  have hR0 := hR.below hb0
  have h2 := alloc_new w zbx
  obtain ⟨b, cap, h1, ht, hcap⟩ := hR0.box
  obtain ⟨s0, s1, s2, v1, v2⟩ := drC h1
  have hs := hR.short
  obtain ⟨hi, _⟩ := List.getElem?_eq_some_iff.1 hx
  rcases ht with rfl | ⟨q, rfl, hg, hgw, hcells⟩
  · simp at hx
  have t0 : (w.alloc zbx).cell? ⟨q, i * 3, none⟩ = some (.int .i64 2) := hcells i _ hx 0 _ rfl
  have t1 := hcells i _ hx 1 _ rfl
  have t2 := hcells i _ hx 2 _ rfl
  dsimp only at t1 t2
  obtain ⟨n, hn⟩ : ∃ n, ts.length = n := ⟨_, rfl⟩
  rw [hn] at s0 hi hs hcap
  have hi' : (i : Int) < (n : Int) := by omega
  have hge : decide (n ≤ i) = false := decide_eq_false (by omega)
  obtain ⟨U, hU⟩ : ∃ U, w.alloc zbx = U := ⟨_, rfl⟩
  rw [hU] at hb0 hR0 h2 s0 s1 s2 v1 v2 t0 t1 t2
  replace hU : w.alloc (.cells #[.int .i64 0, .string ⟨#[]⟩, .int .i64 0, .slice none 0 0] 24) = U := hU
  have hqU : q < U.heap.size := World.block_lt_of_cell? _ _ t0
  have hBU : B < U.heap.size := World.block_lt_of_cell? _ _ s0
  have m1 : ¬ B = U.heap.size := by omega
  have m2 : ¬ U.heap.size = B := by omega
  have m3 : ¬ q = U.heap.size := by omega
  have m4 : ¬ U.heap.size = q := by omega
  clear hcells hx h1
  go_enter Tryz.func123, Tryz.ntmps123
  go_wp2
  go_quiet (fail)
  go_wp2
  have hd : Below U.heap.size U (U.drewN nq) := drewN_below (Below.refl _ _)
  have hRX := hR0.below hd
  have h2X := block_below hd h2
  have hbX := ext_trans hb0 hd
  have S0 := cellB hd s0
  have S1 := cellB hd s1
  have T0 := cellB hd t0
  have T1 := cellB hd t1
  have T2 := cellB hd t2
  have esz : (U.drewN nq).heap.size = U.heap.size := rfl
  obtain ⟨X, hX⟩ : ∃ X, U.drewN nq = X := ⟨_, rfl⟩
  rw [hX] at hRX h2X hbX S0 S1 T0 T1 T2 esz
  rw [hX]
  rw [← esz] at m1 m2 m3 m4
  clear hX hd s0 s1 s2 v1 v2 t0 t1 t2 hR0 h2 hb0 hqU hBU esz hU
  go_region_held3 (fun u => u.cell? ⟨B, 0, none⟩ = some (.slice (some ⟨q, 0, none⟩) n cap) ∧ u.cell? ⟨B, 1, none⟩ = some (.int .i64 (i : Nat)) ∧ u.cell? ⟨q, i * 3, none⟩ = some (.int .i64 2) ∧ u.cell? ⟨q, i * 3 + 1, none⟩ = some (.string ⟨t.toArray⟩) ∧ u.cell? ⟨q, i * 3 + 2, none⟩ = some (.int .i64 (a : Nat))) (go_keep) (fail)
  have hb4 := (ext_alloc (Below.refl X.heap.size X) (tbx 2 ⟨t.toArray⟩ (a : Nat))).drew
  have gT : (X.alloc (tbx 2 ⟨t.toArray⟩ (a : Nat))).drew.heap[X.heap.size]? = some (tbx 2 ⟨t.toArray⟩ (a : Nat)) := alloc_new X _
  have hRY := hRX.below hb4
  have h2Y := block_below hb4 h2X
  have hbY := ext_trans hbX hb4
  have hzY := block_lt h2X
  obtain ⟨Y, hY⟩ : ∃ Y, (X.alloc (tbx 2 ⟨t.toArray⟩ (a : Nat))).drew = Y := ⟨_, rfl⟩
  rw [hY] at hb4 gT hRY h2Y hbY
  replace hY : (X.alloc (.cells #[.int .i64 2, .string ⟨t.toArray⟩, .int .i64 (a : Nat)] 55)).drew = Y := hY
  rw [hY]
  obtain ⟨tb, htb⟩ : ∃ m, X.heap.size = m := ⟨_, rfl⟩
  rw [htb] at gT hzY m1 m2
  rw [htb]
  clear hY htb hb4 hRX h2X hbX S0 S1 T0 T1 T2 m3 m4
  obtain ⟨u0, u1⟩ := box44 gT
  obtain ⟨b', cap', s0, s1, s2, v1, v2⟩ := hRY.cells
  obtain ⟨d0, d1, d2, d3, e0, e1, e2, e3⟩ := in4 h2Y
  refine Lib.hid ?_
  obtain ⟨hall, hmax, hlen⟩ := num_valid2 hv
  have hk1 : Keeps (fun q => q = B) Y (Y.setCell ⟨B, 1, none⟩ (.int .i64 ((i + 1 : Nat) : Int))) := (Keeps.refl _ _).set B 1 _ (fun _ => rfl)
  have hR1 := hRY.go (j := i + 1) (by omega)
  have gT1 := hk1.box gT (by omega)
  have z1 := hk1.box h2Y (by omega)
  have hxn := ext_alloc (Below.refl _ (Y.setCell ⟨B, 1, none⟩ (.int .i64 ((i + 1 : Nat) : Int)))) (nbx ⟨13, [], 0, []⟩ none 0)
  have gn := alloc_new (Y.setCell ⟨B, 1, none⟩ (.int .i64 ((i + 1 : Nat) : Int))) (nbx ⟨13, [], 0, []⟩ none 0)
  have gT2 := block_below hxn gT1
  have z2 := block_below hxn z1
  have hR2 := hR1.below hxn
  have hk2 := ((Keeps.of_below (S := fun q => q = B) hbY).trans hk1).trans (Keeps.of_below hxn)
  have esz : (Y.setCell ⟨B, 1, none⟩ (.int .i64 ((i + 1 : Nat) : Int))).heap.size = Y.heap.size := by simp
  rw [esz] at gn
  have hzT := block_lt gT
  go_wp2
  obtain ⟨Z, hZ⟩ : ∃ Z, (Y.setCell ⟨B, 1, none⟩ (.int .i64 ((i + 1 : Nat) : Int))).alloc (nbx ⟨13, [], 0, []⟩ none 0) = Z := ⟨_, rfl⟩
  rw [hZ] at gn gT2 z2 hR2 hk2
  replace hZ : (Y.setCell ⟨B, 1, none⟩ (.int .i64 ((i : Int) + 1))).alloc (.cells #[.int .i64 13, .string ⟨#[]⟩, .int .i64 0, .slice none 0 0] 24) = Z := hZ
  rw [hZ]
  obtain ⟨tn, htn⟩ : ∃ m, Y.heap.size = m := ⟨_, rfl⟩
  rw [htn] at gn hzT
  rw [htn]
  clear hZ htn esz hxn hk1 hR1 gT1 z1 gT hRY h2Y hbY u0 u1 s0 s1 s2 v1 v2 d0 d1 d2 d3 e0 e1 e2 e3 m1 m2
  replace hall : Hid _ := hall
  replace hP : Hid _ := hP
  go_loopw [5] (fun ix wr => ∃ j : Nat, j ≤ t.length ∧ ix = .int .i64 (j : Nat) ∧ wr.heap[tn]? = some (.cells #[.int .i64 13, .string ⟨#[]⟩, .int .i64 ((numV (t.take j) : Nat) : Int), .slice none 0 0] 24) ∧ Keeps (fun q => q = tn) Z wr) (fun ix _ => t.length - (intOf ix).toNat)
  case atStart => exact ⟨0, by omega, rfl, gn, Keeps.refl _ _⟩
  case round =>
    obtain ⟨j, hj, rfl, gj, hkj⟩ := hrel
    have gTj := hkj.box gT2 (by omega)
    obtain ⟨u0, u1⟩ := box44 gTj
    obtain ⟨c0, c1, c2, c3, f0, f1, f2, f3⟩ := in4 gj
    by_cases hlt : j < t.length
    · have hlt' : (j : Int) < (t.length : Int) := by omega
      obtain ⟨c, hc⟩ : ∃ c, t[j]? = some c := ⟨_, List.getElem?_eq_getElem hlt⟩
      have hcj : t[j] = c := by have := List.getElem?_eq_getElem hlt; rw [hc] at this; exact (Option.some.inj this).symm
      have hdg := dig_lt (List.all_eq_true.1 hall.out c (List.mem_of_getElem? hc))
      have hnx := num_next hc
      have hle := num_take t (j + 1)
      obtain ⟨N0, hN0⟩ : ∃ N, numV (t.take j) = N := ⟨_, rfl⟩
      obtain ⟨N1, hN1⟩ : ∃ N, numV (t.take (j + 1)) = N := ⟨_, rfl⟩
      rw [hN0] at hnx c2 gj
      rw [hN1] at hnx hle
      have h48 : (48 : Int) ≤ (c.toNat : Int) := by omega
      have h57 : (c.toNat : Int) ≤ 57 := by omega
      have hkS : Keeps (fun q => q = tn) wr (wr.setCell ⟨tn, 2, none⟩ (.int .i64 ((N1 : Nat) : Int))) := (Keeps.refl _ _).set tn 2 _ (fun _ => rfl)
      have gS : (wr.setCell ⟨tn, 2, none⟩ (.int .i64 ((N1 : Nat) : Int))).heap[tn]? = some (.cells #[.int .i64 13, .string ⟨#[]⟩, .int .i64 ((N1 : Nat) : Int), .slice none 0 0] 24) := set_block _ gj
      have hN1i : (N1 : Int) = 10 * (N0 : Int) + ((c.toNat : Int) - 48) := by omega
      have hval : ∀ h, wrap64 (10 * (N0 : Int) + wrap64 (((((({ data := t.toArray } : ByteArray)[j]'h).toNat : Nat) : Int) - 48) % 256)) = (N1 : Int) := fun h => by
        have e : ({ data := t.toArray } : ByteArray)[j]'h = c := by rw [← hcj]; rfl
        rw [e]
        unfold wrap64
        omega
      clear hc hN0
      go_wp2
      go_region_with (fail)
      all_goals
        go_wp2
        refine ⟨⟨j + 1, by omega, by go_num, ?_, ?_⟩, by simp [intOf]; omega⟩
        · rw [hval, hN1]; exact gS
        · rw [hval]; exact (hkj.then hkS (fun q _ e => e)).drew
    · have hge : ¬ (j : Int) < (t.length : Int) := by omega
      have e : j = t.length := by omega
      rw [e, List.take_length] at gj c2
      have zj := hkj.box z2 (by omega)
      obtain ⟨d0, d1, d2, d3, e0, e1, e2, e3⟩ := in4 zj
      have hRj := hR2.keep hkj (fun q hq e => by omega)
      have hkw := hk2.then hkj (fun q hq e => by omega)
      clear e
      go_wp2
      refine bodyPost_ret (res157 rfl (put4_same _ _ _ _ zj)) rfl ?_
      exact na_close (x := ⟨13, [], numOf t, []⟩) (b := none) (cap := 0) (ndV_leaf _ _ 13 [] _) hRj hkw (Nat.le_refl _) hBw (.inr ⟨rfl, hP.out⟩)
end Go.Proofs.YtnnppenlfocgiaaGreatDoor
namespace Go.Proofs.YtnnppenlfocgiaaGreatDoor
open Go.RowKit
open Go

theorem first_of (f : Nat) (hE : DRow f) : DFst (f + 1) := by
  intro r Fin g B ts i w hF hR hP
  cases hx : ts[i]? with
  | none =>
    have hl := List.getElem?_eq_none_iff.1 hx
    have hle := hR.le
    rw [rest_end hl, P] at hP
    refine fst_end B ts i (by omega) r Fin g w hR (hF.2 i hle ?_)
    rw [rest_end hl]
    exact (Option.some.inj hP).symm
  | some x =>
    obtain ⟨k, t, a⟩ := x
    have hre := rest_cons hx
    have hv : valid (k, t) := hF.1 (k, t) (List.mem_map.2 ⟨_, List.mem_of_getElem? hx, rfl⟩)
    rw [hre, P] at hP
    simp only [pt] at hP hre
    rw [← hre] at hP
    rw [ite_on] at hP
    by_cases h2 : k = 2
    · subst h2
      rw [if_pos rfl] at hP
      exact fst_num B ts i t a hx r Fin g w hF hR hv hP
    rw [if_neg h2, ite_on] at hP
    by_cases h3 : k = 3
    · subst h3
      rw [if_pos rfl] at hP
      exact fst_text B ts i t a hx r Fin g w hF hR hP
    rw [if_neg h3, ite_on] at hP
    have q2 : (k == 2) = false := by simpa using h2
    have q3 : (k == 3) = false := by simpa using h3
    by_cases a1 : tx (rest ts i) = S.lp
    · rw [if_pos a1] at hP
      simp only [on_on, need_on, ok_on] at hP
      exact fst_lp k f hE B ts i t a hx r Fin g w hF hR q2 q3 a1 hP
    rw [if_neg a1, ite_on] at hP
    by_cases a2 : tx (rest ts i) = W.nil_
    · rw [if_pos a2] at hP
      exact fst_nil k B ts i t a hx r Fin g w hF hR q2 q3 a1 a2 hP
    rw [if_neg a2, ite_on] at hP
    by_cases a3 : tx (rest ts i) = W.true_
    · rw [if_pos a3] at hP
      exact fst_true k B ts i t a hx r Fin g w hF hR q2 q3 a1 a2 a3 hP
    rw [if_neg a3, ite_on] at hP
    by_cases a4 : tx (rest ts i) = W.false_
    · rw [if_pos a4] at hP
      exact fst_false k B ts i t a hx r Fin g w hF hR q2 q3 a1 a2 a3 a4 hP
    rw [if_neg a4, ite_on] at hP
    by_cases a5 : tx (rest ts i) = S.lc
    · rw [if_pos a5, need_on] at hP
      exact fst_lc k B ts i t a hx r Fin g w hF hR q2 q3 a1 a2 a3 a4 a5 hP
    rw [if_neg a5, ite_on] at hP
    by_cases a6 : tx (rest ts i) = W.next_
    · rw [if_pos a6] at hP
      simp only [on_on, need_on, ok_on] at hP
      exact fst_next k f hE B ts i t a hx r Fin g w hF hR q2 q3 a1 a2 a3 a4 a5 a6 hP
    rw [if_neg a6, needName_on] at hP
    exact fst_name k B ts i t a hx r Fin g w hF hR q2 q3 a1 a2 a3 a4 a5 a6 hP
structure DExp (f : Nat) : Prop where
  row : DRow f
  un : DUn f
  fst : DFst f
  beh : DBeh f
theorem dexp_zero : DExp 0 where
  row := fun _ _ _ _ _ _ _ _ _ _ _ h => by cases h
  un := fun _ _ _ _ _ _ _ _ _ h => by cases h
  fst := fun _ _ _ _ _ _ _ _ _ h => by cases h
  beh := fun _ _ _ _ _ _ _ _ _ _ _ _ _ _ _ h => by cases h
theorem dexp_of (f : Nat) : f ≤ 90000 → ∀ k, k ≤ f → DExp k := by
  induction f with
  | zero =>
    intro _ k hk
    obtain rfl : k = 0 := by omega
    exact dexp_zero
  | succ f ih =>
    intro hf k hk
    rcases Nat.lt_or_ge f k with h | h
    · obtain rfl : k = f + 1 := by omega
      have A := fun k hk => ih (by omega) k hk
      have Af := A f (Nat.le_refl _)
      exact ⟨bound_of f (fun k hk => (A k hk).row) Af.un, unary_of f Af.un Af.fst (fun k hk => (A k (by omega)).beh), first_of f Af.row, behind_of f (by omega) (fun k hk => (A k hk).row)⟩
    · exact ih (by omega) k h
end Go.Proofs.YtnnppenlfocgiaaGreatDoor
namespace Go.Proofs.YtnnppenlfocgiaaGreatDoor
open Go.RowKit
open Go

theorem dstat_of (f : Nat) (hE : DRow f) (hK : DBlk f) (hX : DSim f) : DSt (f + 1) := by
  intro r Fin g B ts i w hF hR hP
  rw [P, ite_on] at hP
  by_cases a0 : tx (rest ts i) = W.local_
  · rw [if_pos a0] at hP
    simp only [on_on, need_on, needName_on, ok_on, rest_tail] at hP
    exact st_local f hE r Fin g B ts i w hF hR a0 hP
  rw [if_neg a0, ite_on] at hP
  by_cases a1 : tx (rest ts i) = W.if_
  · rw [if_pos a1] at hP
    simp only [on_on, need_on, ite_on, ok_on, rest_tail] at hP
    exact st_if f hE hK r Fin g B ts i w hF hR a0 a1 hP
  rw [if_neg a1, ite_on] at hP
  by_cases a2 : tx (rest ts i) = W.while_
  · rw [if_pos a2] at hP
    simp only [on_on, need_on, ok_on, rest_tail] at hP
    exact st_while f hE hK r Fin g B ts i w hF hR a0 a1 a2 hP
  rw [if_neg a2, ite_on] at hP
  by_cases a3 : tx (rest ts i) = W.for_
  · rw [if_pos a3] at hP
    simp only [on_on, need_on, needName_on, ok_on, rest_tail] at hP
    exact st_for f hE hK r Fin g B ts i w hF hR a0 a1 a2 a3 hP
  rw [if_neg a3, ite_on] at hP
  by_cases a4 : tx (rest ts i) = W.return_
  · rw [if_pos a4] at hP
    simp only [on_on, need_on, ok_on, rest_tail] at hP
    exact st_return f hE r Fin g B ts i w hF hR a0 a1 a2 a3 a4 hP
  rw [if_neg a4, ite_on] at hP
  by_cases a5 : tx (rest ts i) = W.emit_
  · rw [if_pos a5] at hP
    simp only [on_on, need_on, ok_on, rest_tail] at hP
    exact st_emit f hE r Fin g B ts i w hF hR a0 a1 a2 a3 a4 a5 hP
  rw [if_neg a5] at hP
  simp only [on_on, need_on, needName_on, ok_on] at hP
  exact st_simple f hX r Fin g B ts i w hF hR a0 a1 a2 a3 a4 a5 hP
theorem dst_all (f : Nat) : f ≤ 90000 → ∀ k, k ≤ f → DSt k := by
  induction f with
  | zero =>
    intro _ k hk
    obtain rfl : k = 0 := by omega
    exact fun _ _ _ _ _ _ _ _ _ h => by cases h
  | succ f ih =>
    intro hf k hk
    have ih' := ih (by omega)
    by_cases h : k ≤ f
    · exact ih' k h
    obtain rfl : k = f + 1 := by omega
    have hD := dexp_of f (by omega)
    exact dstat_of f (hD f (Nat.le_refl _)).row (dblock_of f (by omega) (fun m hm => ih' m (by omega))) (dsim_of f (by omega) (fun m hm => (hD m (by omega)).beh) (fun m hm => (hD m (by omega)).row))
theorem dblk_all (f : Nat) (hf : f ≤ 90000) : DBlk f := dblock_of f hf (fun k hk => dst_all f hf k (by omega))
theorem res16 {tm : Array Value} {W : World} {B : Nat} {a b c d : Value} (h : tm[2]?.getD undef = .pointer (some ⟨B, 0, none⟩)) (hx : W.heap[B]? = some (.cells #[a, b, c, d] 24)) : (results Tryz.f17 tm).run Tryz.prog W = .ok (.agg #[a, b, c, d]) W := by
  obtain ⟨c0, c1, c2, c3, _, _, _, _⟩ := in4 hx
  simp [results, Tryz.results17, go_sem, h, c0, c1, c2, c3]
theorem need_pos {s : List UInt8} {l : List PT} {g : List PT → PR} (h : tx l = s) : need s l g = g l.tail := by
  unfold need
  rw [if_pos h]
def DFun (f : Nat) : Prop := ∀ (r : PRes) (Fin : Nat → Prop) (g : Nd → List PT → PR) (B : Nat) (ts : List Tok) (i : Nat) (w : World), FinOK ts Fin r → Dr w B ts i false → (P f 10 nil0 0 (rest ts i)).on g = some r → Calls Tryz.prog 17 #[.pointer (some ⟨B, 0, none⟩)] w (NA no w B ts Fin r g)
/-- What follows behind the parameters. -/
def funK (f : Nat) (s : List UInt8) (g : Nd → List PT → PR) (ks : List Nd) (l : List PT) : PR := need S.rp l fun l => (P f 7 (nd 4 []) 0 l).on fun b l => need W.end_ l fun l => g ⟨2, s, 0, ks ++ [b]⟩ l
/-- Between two parameters. -/
def FpI (f t : Nat) (w : World) (B : Nat) (ts : List Tok) (Fin : Nat → Prop) (r : PRes) (s : List UInt8) (g : Nd → List PT → PR) (m : Nat) (mv : Value) (wr : World) : Prop :=
  ∃ (ks : List Nd) (b : Option Addr) (cap j : Nat) (bad more : Bool) (k : Nat), mv = .bool more ∧ NS w B t ts wr ⟨2, s, 0, ks⟩ b cap j bad ∧ k ≤ m ∧ (more = true → 1 ≤ m) ∧ ks.length + m ≤ f + 2 ∧ ((bad = true ∧ Fin j) ∨ (bad = false ∧ if more then (P k 11 ⟨2, s, 0, ks⟩ 0 (rest ts j)).on (fun n l => funK f s g n.kids l) = some r else funK f s g ks (rest ts j) = some r))
set_option maxRecDepth 20000 in
set_option maxHeartbeats 2000000 in
theorem dfun_of (f : Nat) (hf : f ≤ 90000) (hK : DBlk f) : DFun (f + 1) := by
  intro r Fin g B ts i w hF hR hP
  obtain ⟨i0, hi0, hz0, hz1, hz2⟩ := info_parts info24
  rw [P] at hP
  simp only [need_on, needName_on, ite_on, on_on, ok_on] at hP
  have hBw := hR.lt
  have hb0 : Below w.heap.size w (w.alloc zbx) := ext_alloc (Below.refl _ _) _
  have h2 := alloc_new w zbx
  have hM := must_any (s := W.function_) (by decide) hF (.inr ⟨rfl, hP⟩) _ (hR.below hb0)
  clear hP
  go_enter Tryz.func17, Tryz.ntmps17
  go_wp2_with (first | (go_at_call 28; refine hM.mono ?_; rintro e w1 ⟨rfl, j1, bad1, hR1, hk1, hFl1⟩) | (go_at_call 29; refine (rnm_any hF hFl1 _ hR1).mono ?_; rintro e w2 ⟨s, j2, bad2, rfl, hR2, hk2, hFl2⟩; refine Hid.out ?_))
  have hkA := hk1.trans hk2
  have z2 := hkA.box h2 (by omega)
  have hzA := block_lt z2
  have hb3 := ext_alloc (Below.refl w2.heap.size w2) (nbx ⟨2, s, 0, []⟩ none 0)
  have hS : NS w B w2.heap.size ts (w2.alloc (nbx ⟨2, s, 0, []⟩ none 0)) ⟨2, s, 0, []⟩ none 0 j2 bad2 := ⟨alloc_new _ _, block_below hb3 z2, Row.nil _ _, hR2.below hb3, ((Keeps.of_below hb0).trans hkA).trans (Keeps.of_below hb3), hzA, hBw⟩
  clear hM hR1 hR2 hk1 hk2 hkA hFl1 hb3 z2 h2
  refine Lib.hid ?_
  go_wp2_with (go_at_call 28; refine Hid.out ?_)
  obtain ⟨W3, hW3⟩ : ∃ W, w2.alloc (nbx ⟨2, s, 0, []⟩ none 0) = W := ⟨_, rfl⟩
  obtain ⟨t, ht⟩ : ∃ m, w2.heap.size = m := ⟨_, rfl⟩
  rw [hW3, ht] at hS
  replace hW3 : w2.alloc (.cells #[.int .i64 2, .string ⟨s.toArray⟩, .int .i64 0, .slice none 0 0] 24) = W3 := hW3
  rw [hW3, ht]
  rw [ht] at hzA
  clear hW3 ht
  refine Lib.hid ?_
  refine (hS.must (s := S.lp) (by decide) hF hFl2).mono ?_
  rintro e w5 ⟨rfl, j5, bad5, hS5, hFl5⟩
  have hT := text_any B ts j5 bad5 w5 hS5.R
  clear hS hFl2
  by_cases hrp : txd ts j5 bad5 = S.rp
  · obtain ⟨rfl, hi5⟩ := txd_lt hrp (by decide)
    rw [hrp] at hT
    have hFl6 : Fl ts Fin r j5 false (fun l => funK f s g [] l) := by
      rcases hFl5 with ⟨h, _⟩ | ⟨_, h⟩
      · cases h
      · refine .inr ⟨rfl, ?_⟩
        dsimp only at h
        rw [if_pos (show tx (rest ts j5) = S.rp from hrp)] at h
        unfold funK
        dsimp only
        rw [need_pos (show tx (rest ts j5) = S.rp from hrp)]
        exact h
    obtain ⟨ks, hks⟩ : ∃ l : List Nd, [] = l := ⟨_, rfl⟩
    have hl0 : ks.length ≤ 100000 := by rw [← hks]; simp
    go_wp2_with (go_at_call 30; refine hT.mono ?_; rintro e w6 ⟨rfl, hb6⟩; have hS7 := hS5.below hb6; refine Hid.out ?_)
    rw [hks] at hS7 hFl6
    unfold funK at hFl6
    clear hks hFl5 hS5 hT hrp
    refine Lib.hid ?_
    go_wp2_with (first | (go_at_call 28; refine (hS7.must (s := S.rp) (by decide) hF hFl6).mono ?_; rintro e w3 ⟨rfl, j3, bad3, hS3, hFl3⟩) | (go_at_call 32; refine (hS3.block hK hF _ hFl3).mono ?_; rintro e w4 ⟨y, by1, cy, j4, bad4, rfl, hS4, hy4, hFl4⟩; refine Hid.out ?_))
    have hb5 := ext_alloc (ext_alloc (Below.refl w4.heap.size w4) (nbx y by1 cy)) (nbx y by1 cy)
    have hnew := alloc_new (w4.alloc (nbx y by1 cy)) (nbx y by1 cy)
    rw [World.size_alloc] at hnew
    have hS5 := hS4.below hb5
    have hy5 := hy4.below hb5
    obtain ⟨c0, c1, c2, c3, f0, f1, f2, f3⟩ := in4 hS4.g
    obtain ⟨x0, x1, x2, x3, y0, y1, y2, y3⟩ := in4a hS4.g
    refine Lib.hid ?_
    go_wp2_with (at_builtin; refine Hid.out ?_)
    obtain ⟨Wq, hWq⟩ : ∃ V, (w4.alloc (nbx y by1 cy)).alloc (nbx y by1 cy) = V := ⟨_, rfl⟩
    rw [hWq] at hnew hS5 hy5
    replace hWq : (w4.alloc (.cells #[.int .i64 y.k, .string ⟨y.t.toArray⟩, .int .i64 y.n, .slice by1 y.kids.length cy] 24)).alloc (.cells #[.int .i64 y.k, .string ⟨y.t.toArray⟩, .int .i64 y.n, .slice by1 y.kids.length cy] 24) = Wq := hWq
    rw [hWq]
    obtain ⟨xs, ho, hn⟩ := hS5.ready
    dsimp only at ho hn hy5
    have q35 := hS5.g
    have htl := hS5.lt
    have hne3 : some t ≠ Value.ownBlock (.slice none ks.length 0) := fun e => by have := (hS5.own _ e.symm).1; omega
    have hn1 : ks.length + 1 ≤ maxLen := by unfold maxLen; omega
    have hb1 : (ks.length + 1) * 56 ≤ 140737488355328 := by omega
    clear hWq hb5 c0 c1 c2 c3 f0 f1 f2 f3 x0 x1 x2 x3 y0 y1 y2 y3
    refine Lib.hid ?_
    go_wp2_with (first | (at_builtin; refine wpList_append_lies _ (by rfl) _ _ _ (by rfl) 0 24 i0 _ 4 56 Tryz.underlying22 hi0 hz0 hz1 hz2 rfl (by omega) (.slice none ks.length 0) ks.length _ (by rfl) ho ⟨w4.heap.size + 1, 0, none⟩ 1 1 _ (by rfl) (by rfl) (cells_of y by1 cy hnew) (by simp [Value.oneCell']) (by omega) hn1 hb1 (Nat.zero_le _) _ rfl ?_; intro g3 cap3 w5 hown1 hgrow hat1 hlt1; have p3w := (hgrow.block _ (block_lt q35) hne3).trans q35; obtain ⟨c0, c1, c2, c3, f0, f1, f2, f3⟩ := in4 p3w) | (go_at_call 28; refine Hid.out ?_))
    obtain ⟨W6, hW6⟩ : ∃ W, w5.setCell ⟨t, 3, none⟩ (.slice (some ⟨g3, 0, none⟩) (ks.length + 1) cap3) = W := ⟨_, rfl⟩
    have hS6 := hS5.app ho hn hy5 hown1 hgrow hat1 hW6
    rw [hW6]
    clear hW6 hown1 hgrow hat1 hlt1 ho hn hy5 hS5 q35 hnew c0 c1 c2 c3 f0 f1 f2 f3 p3w
    refine Lib.hid ?_
    refine (hS6.must (s := W.end_) (by decide) hF hFl4).mono ?_
    rintro e w9 ⟨rfl, j2, bad2, hS2, hFl2⟩
    obtain ⟨c0, c1, c2, c3, f0, f1, f2, f3⟩ := in4 hS2.g
    obtain ⟨d0, d1, d2, d3, e0, e1, e2, e3⟩ := in4 hS2.z
    go_wp2
    refine bodyPost_ret (res16 rfl (put4_same _ _ _ _ hS2.z)) rfl ?_
    rw [show ks.length + 1 = (ks ++ [y]).length by simp]
    exact hS2.close hFl2
  · have hFl6 : Fl ts Fin r j5 bad5 (fun l => (P f 11 ⟨2, s, 0, []⟩ 0 l).on (fun n l => funK f s g n.kids l)) := by
      rcases hFl5 with h | ⟨rfl, h⟩
      · exact .inl h
      · refine .inr ⟨rfl, ?_⟩
        dsimp only at h
        rw [if_neg (show ¬ tx (rest ts j5) = S.rp from hrp)] at h
        exact h
    have hI : ∀ u, Below w5.heap.size w5 u → FpI f t w B ts Fin r s g (f + 1) (.bool true) u := fun u hb => by
      refine ⟨[], none, 0, j5, bad5, true, f, rfl, hS5.below hb, by omega, by omega, by simp, ?_⟩
      rcases hFl6 with h | ⟨h1, h2⟩
      · exact .inl h
      · exact .inr ⟨h1, by rw [if_pos rfl]; exact h2⟩
    obtain ⟨tt, htt⟩ : ∃ v, txd ts j5 bad5 = v := ⟨_, rfl⟩
    rw [htt] at hT hrp
    have hne : (tt == [41]) = false := by simpa using hrp
    clear hFl5 hFl6 hS5 htt hrp
    go_wp2_with (go_at_call 30; refine hT.mono ?_; rintro e w6 ⟨rfl, hb6⟩; have hI6 := hI _ hb6)
    clear hI hT
    go_loopg [4] (f + 1) (fun k mv wr => FpI f t w B ts Fin r s g k mv wr)
    case atStart => exact hI6
    case round =>
      obtain ⟨ks, b, cap, j, bad, more, k, rfl, hS, hkm, hm1, hlen, hst⟩ := hrel
      clear hI6
      have hl0 : ks.length ≤ 100000 := by omega
      cases more with
      | false =>
        have hFl : Fl ts Fin r j bad (fun l => funK f s g ks l) := by
          rcases hst with h | ⟨h1, h2⟩
          · exact .inl h
          · exact .inr ⟨h1, by rw [if_neg (by decide)] at h2; exact h2⟩
        unfold funK at hFl
        clear hst
        go_wp2_with (first | (go_at_call 28; refine (hS.must (s := S.rp) (by decide) hF hFl).mono ?_; rintro e w3 ⟨rfl, j3, bad3, hS3, hFl3⟩) | (go_at_call 32; refine (hS3.block hK hF _ hFl3).mono ?_; rintro e w4 ⟨y, by1, cy, j4, bad4, rfl, hS4, hy4, hFl4⟩; refine Hid.out ?_))
        have hb5 := ext_alloc (ext_alloc (Below.refl w4.heap.size w4) (nbx y by1 cy)) (nbx y by1 cy)
        have hnew := alloc_new (w4.alloc (nbx y by1 cy)) (nbx y by1 cy)
        rw [World.size_alloc] at hnew
        have hS5 := hS4.below hb5
        have hy5 := hy4.below hb5
        obtain ⟨c0, c1, c2, c3, f0, f1, f2, f3⟩ := in4 hS4.g
        obtain ⟨x0, x1, x2, x3, y0, y1, y2, y3⟩ := in4a hS4.g
        refine Lib.hid ?_
        go_wp2_with (at_builtin; refine Hid.out ?_)
        obtain ⟨Wq, hWq⟩ : ∃ V, (w4.alloc (nbx y by1 cy)).alloc (nbx y by1 cy) = V := ⟨_, rfl⟩
        rw [hWq] at hnew hS5 hy5
        replace hWq : (w4.alloc (.cells #[.int .i64 y.k, .string ⟨y.t.toArray⟩, .int .i64 y.n, .slice by1 y.kids.length cy] 24)).alloc (.cells #[.int .i64 y.k, .string ⟨y.t.toArray⟩, .int .i64 y.n, .slice by1 y.kids.length cy] 24) = Wq := hWq
        rw [hWq]
        obtain ⟨xs, ho, hn⟩ := hS5.ready
        dsimp only at ho hn hy5
        have q35 := hS5.g
        have htl := hS5.lt
        have hne3 : some t ≠ Value.ownBlock (.slice b ks.length cap) := fun e => by have := (hS5.own _ e.symm).1; omega
        have hn1 : ks.length + 1 ≤ maxLen := by unfold maxLen; omega
        have hb1 : (ks.length + 1) * 56 ≤ 140737488355328 := by omega
        clear hWq hb5 c0 c1 c2 c3 f0 f1 f2 f3 x0 x1 x2 x3 y0 y1 y2 y3
        refine Lib.hid ?_
        go_wp2_with (first | (at_builtin; refine wpList_append_lies _ (by rfl) _ _ _ (by rfl) 0 24 i0 _ 4 56 Tryz.underlying22 hi0 hz0 hz1 hz2 rfl (by omega) (.slice b ks.length cap) ks.length _ (by rfl) ho ⟨w4.heap.size + 1, 0, none⟩ 1 1 _ (by rfl) (by rfl) (cells_of y by1 cy hnew) (by simp [Value.oneCell']) (by omega) hn1 hb1 (Nat.zero_le _) _ rfl ?_; intro g3 cap3 w5 hown1 hgrow hat1 hlt1; have p3w := (hgrow.block _ (block_lt q35) hne3).trans q35; obtain ⟨c0, c1, c2, c3, f0, f1, f2, f3⟩ := in4 p3w) | (go_at_call 28; refine Hid.out ?_))
        obtain ⟨W6, hW6⟩ : ∃ W, w5.setCell ⟨t, 3, none⟩ (.slice (some ⟨g3, 0, none⟩) (ks.length + 1) cap3) = W := ⟨_, rfl⟩
        have hS6 := hS5.app ho hn hy5 hown1 hgrow hat1 hW6
        rw [hW6]
        clear hW6 hown1 hgrow hat1 hlt1 ho hn hy5 hS5 q35 hnew c0 c1 c2 c3 f0 f1 f2 f3 p3w
        refine Lib.hid ?_
        refine (hS6.must (s := W.end_) (by decide) hF hFl4).mono ?_
        rintro e w9 ⟨rfl, j2, bad2, hS2, hFl2⟩
        obtain ⟨c0, c1, c2, c3, f0, f1, f2, f3⟩ := in4 hS2.g
        obtain ⟨d0, d1, d2, d3, e0, e1, e2, e3⟩ := in4 hS2.z
        go_wp2
        refine bodyPost_ret (res16 rfl (put4_same _ _ _ _ hS2.z)) rfl ?_
        rw [show ks.length + 1 = (ks ++ [y]).length by simp]
        exact hS2.close hFl2
      | true =>
        have hFl : Fl ts Fin r j bad (fun l => needName l fun s1 l => (if tx l = S.cm then P (k - 1) 11 ⟨2, s, 0, ks ++ [⟨3, s1, 0, []⟩]⟩ 0 l.tail else .ok ⟨2, s, 0, ks ++ [⟨3, s1, 0, []⟩]⟩ l).on (fun n l => funK f s g n.kids l)) := by
          rcases hst with h | ⟨h1, h2⟩
          · exact .inl h
          · rw [if_pos rfl] at h2
            cases k with
            | zero => cases h2
            | succ k =>
              rw [P, needName_on] at h2
              exact .inr ⟨h1, h2⟩
        obtain ⟨c0, c1, c2, c3, f0, f1, f2, f3⟩ := in4 hS.g
        have hm2 := hm1 rfl
        have hn1 : ks.length + 1 ≤ maxLen := by unfold maxLen; omega
        have hb1 : (ks.length + 1) * 56 ≤ 140737488355328 := by omega
        have hzt := hS.lt
        clear hst hm1
        cases gk with
        | zero => omega
        | succ m =>
        clear hm2
        go_wp2
        go_region_law (first
            | (refine step_append_lies _ (by rfl) _ _ _ (by rfl) 0 24 i0 _ 4 56 Tryz.underlying22 hi0 hz0 hz1 hz2 rfl (by omega) (.slice b ks.length cap) ks.length _ (by rfl) ho ⟨w2.heap.size, 0, none⟩ 1 1 _ (by rfl) (by rfl) (cells_of ⟨3, s1, 0, []⟩ none 0 (alloc_new w2 (nbx ⟨3, s1, 0, []⟩ none 0))) (by simp [Value.oneCell']) (by omega) hn1 hb1 (Nat.zero_le _) _ rfl ?_; intro g3 cap3 w3 hown3 hgrow hat hlt3; have p3w := (hgrow.block _ (block_lt p3) hne3).trans p3; obtain ⟨c0, c1, c2, c3, f0, f1, f2, f3⟩ := in4 p3w)
            | (go_simp; go_at_call 29; refine ((hS.below ((Below.refl _ _).drew)).name hF hFl).mono ?_; rintro e w2 ⟨s1, j1, bad1, rfl, hS1, hFl1⟩; have hSa := hS1.below (ext_alloc (Below.refl _ _) (nbx ⟨3, s1, 0, []⟩ none 0)); obtain ⟨c0, c1, c2, c3, f0, f1, f2, f3⟩ := in4 hS1.g; obtain ⟨d0, d1, d2, d3, e0, e1, e2, e3⟩ := in4a hS1.g; obtain ⟨xs, ho, hn⟩ := hSa.ready; dsimp only at ho hn; have p3 := hSa.g; have hne3 : some t ≠ Value.ownBlock (.slice b ks.length cap) := fun e => by have := (hSa.own _ e.symm).1; omega))
        all_goals
          clear c0 c1 c2 c3 f0 f1 f2 f3 d0 d1 d2 d3 e0 e1 e2 e3 p3w
          obtain ⟨W4, hW4⟩ : ∃ W4, w3.setCell ⟨t, 3, none⟩ (.slice (some ⟨g3, 0, none⟩) (ks.length + 1) cap3) = W4 := ⟨_, rfl⟩
          have hS4 := hSa.app ho hn (ndV_leaf _ _ 3 s1 0) hown3 hgrow hat hW4
          have hEt := hS4.eat S.cm (by decide)
          replace hFl1 : Hid _ := hFl1
          clear hown3 hgrow hat hlt3 ho hn p3 hS1 hSa hFl hS
          refine Lib.hid ?_
          go_wp2_with (go_at_call 31; refine hEt.mono ?_; rintro e w6 ⟨y, j6, rfl, hS6, hY⟩)
          have hFl2 := hFl1.out
          have hst : (bad1 = true ∧ Fin j6) ∨ (bad1 = false ∧ if y then (P (k - 1) 11 ⟨2, s, 0, ks ++ [⟨3, s1, 0, []⟩]⟩ 0 (rest ts j6)).on (fun n l => funK f s g n.kids l) = some r else funK f s g (ks ++ [⟨3, s1, 0, []⟩]) (rest ts j6) = some r) := by
            rcases hFl2 with ⟨h0, h1⟩ | ⟨h0, h1⟩
            · subst h0
              rcases hY with ⟨_, h, _⟩ | ⟨_, _, rfl⟩
              · cases h
              · exact .inl ⟨rfl, h1⟩
            · subst h0
              refine .inr ⟨rfl, ?_⟩
              rcases hY with ⟨rfl, _, h2, rfl⟩ | ⟨rfl, h2, rfl⟩
              · rw [if_pos h2, rest_tail] at h1
                rw [if_pos rfl]
                exact h1
              · rw [if_neg (show ¬ tx (rest ts j6) = S.cm from h2)] at h1
                rw [if_neg (by decide)]
                exact h1
          have hmm : y = true → 1 ≤ m := by
            intro e
            subst e
            rcases hY with ⟨_, h, _⟩ | ⟨h, _⟩
            · subst h
              rcases hst with ⟨h, _⟩ | ⟨_, h⟩
              · cases h
              · rw [if_pos rfl] at h
                by_cases hk0 : k - 1 = 0
                · rw [hk0] at h
                  cases h
                · omega
            · cases h
          go_roundg m
          case measure => omega
          case rel => exact ⟨ks ++ [⟨3, s1, 0, []⟩], _, _, j6, bad1, y, k - 1, rfl, hS6, by omega, hmm, by simp; omega, hst⟩
end Go.Proofs.YtnnppenlfocgiaaGreatDoor
namespace Go.Proofs.YtnnppenlfocgiaaGreatDoor
open Go.RowKit
open Go

theorem resP8 {tm : Array Value} {W : World} {B C : Nat} {a b c d x y : Value} (h : tm[2]?.getD undef = .pointer (some ⟨B, 0, none⟩)) (h' : tm[3]?.getD undef = .pointer (some ⟨C, 0, none⟩)) (hx : W.heap[B]? = some (.cells #[a, b, c, d] 24)) (hy : W.heap[C]? = some (.cells #[x, y] 27)) : (results Tryz.f9 tm).run Tryz.prog W = .ok (.tuple #[.agg #[a, b, c, d], .agg #[x, y]]) W := by
  obtain ⟨c0, c1, c2, c3, _, _, _, _⟩ := in4 hx
  have d0 : W.cell? ⟨C, 0, none⟩ = some x := cell_block hy rfl
  have d1 : W.cell? ⟨C, 1, none⟩ = some y := cell_block hy rfl
  simp [results, Tryz.results9, go_sem, h, h', c0, c1, c2, c3, d0, d1]
/-- The program that is being put together, in its box t. -/
structure NP (w : World) (B t : Nat) (bl : Option Addr) (ts : List Tok) (W : World) (ks : List Nd) (b : Option Addr) (cap j : Nat) (bad : Bool) : Prop where
  g : W.heap[t]? = some (nbx (nd 1 ks) b cap)
  row : Row (fun q => t < q) W (.slice b ks.length cap) ks
  R : Dr W B ts j bad
  X : PX w W
  T : TokAt W bl ts B
  lt : B < t
  hB : w.heap.size + 1 < B
theorem NP.own {w W : World} {B t : Nat} {bl : Option Addr} {ts : List Tok} {ks : List Nd} {b : Option Addr} {cap j : Nat} {bad : Bool} (h : NP w B t bl ts W ks b cap j bad) : ∀ q, Value.ownBlock (.slice b ks.length cap) = some q → t < q ∧ q < W.heap.size := by
  obtain ⟨_, _, _, hlt9⟩ := h.row.form
  exact hlt9
theorem PX.keep {w W W' : World} {S : Nat → Prop} (h : PX w W) (hk : Keeps S W W') (hS : ∀ q, S q → w.heap.size + 1 < q) : PX w W' :=
  ⟨hk.box h.g0 (fun e => by have := hS _ e; omega), hk.box h.g1 (fun e => by have := hS _ e; omega), ((Keeps.of_below (S := no) h.bl).then hk (fun q hq e => by have := hS _ e; omega)).below (Nat.le_refl _) (fun _ _ => id)⟩
theorem NP.on {w W W' : World} {B t : Nat} {bl : Option Addr} {ts : List Tok} {ks : List Nd} {b : Option Addr} {cap j j' : Nat} {bad bad' : Bool} (h : NP w B t bl ts W ks b cap j bad) (hk : Keeps (fun q => q = B) W W') (hR : Dr W' B ts j' bad') : NP w B t bl ts W' ks b cap j' bad' := by
  have h1 := h.lt
  have h2 := h.hB
  exact ⟨hk.box h.g (by omega), h.row.keep hk (fun q hq _ e => by omega), hR, h.X.keep hk (fun q e => by omega), h.T.keep hk (fun q hq e => by omega), h1, h2⟩
theorem NP.below {w W W' : World} {B t : Nat} {bl : Option Addr} {ts : List Tok} {ks : List Nd} {b : Option Addr} {cap j : Nat} {bad : Bool} (h : NP w B t bl ts W ks b cap j bad) (hb : Below W.heap.size W W') : NP w B t bl ts W' ks b cap j bad := h.on (Keeps.of_below hb) (h.R.below hb)
theorem NP.app {w W w3 W4 : World} {B t : Nat} {bl : Option Addr} {ts : List Tok} {ks : List Nd} {b : Option Addr} {cap j : Nat} {bad : Bool} (h : NP w B t bl ts W ks b cap j bad) {y : Nd} {b1 : Option Addr} {cap1 : Nat} {xs : List Value} {g cap3 : Nat} (ho : W.ownsRow 0 24 4 (.slice b ks.length cap) ks.length xs) (hn : ∀ j y, ks[j]? = some y → NdAt (fun g => (t < g) ∧ some g ≠ Value.ownBlock (.slice b ks.length cap)) W y (fun i => if i < 4 then xs[j * 4 + i]? else none)) (hy : NdV (fun q => t < q ∧ some q ≠ Value.ownBlock (.slice b ks.length cap)) W y (ndv y b1 cap1))
    (hown : w3.ownsRow 0 24 4 (.slice (some ⟨g, 0, none⟩) (ks.length + 1) cap3) (ks.length + 1) (xs ++ [.int .i64 y.k, sk y.t, .int .i64 y.n, .slice b1 y.kids.length cap1])) (hgrow : W.grownBy w3 (Value.ownBlock (.slice b ks.length cap))) (hat : Value.ownBlock (.slice b ks.length cap) = some g ∨ g = W.heap.size) (hW4 : w3.setCell ⟨t, 3, none⟩ (.slice (some ⟨g, 0, none⟩) (ks.length + 1) cap3) = W4) : NP w B t bl ts W4 (ks ++ [y]) (some ⟨g, 0, none⟩) cap3 j bad := by
  have h1 := h.lt
  have h2 := h.hB
  have h3 := block_lt h.g
  obtain ⟨hRow6, g6, hk6, _⟩ := kids_step (lo := 0) ho (fun q e => (h.own q e).1) hn hy (fun q hq => by omega) (fun q hq => by omega) (fun q e => Nat.zero_le _) (Nat.zero_le _) h.g hown hgrow hat hW4
  have hS : ∀ q, (q = t ∨ some q = Value.ownBlock (.slice b ks.length cap)) → B < q := by
    intro q e
    rcases e with e | e
    · omega
    · have := (h.own _ e.symm).1; omega
  exact ⟨g6, hRow6, h.R.keep hk6 (fun q hq e => by have := hS q e; omega), h.X.keep hk6 (fun q e => by have := hS q e; omega), h.T.keep hk6 (fun q hq e => by have := hS q e; omega), h1, h2⟩
theorem dfun_at (f : Nat) (hf : f ≤ 90000) : DFun f := by
  cases f with
  | zero => exact fun _ _ _ _ _ _ _ _ _ h => by cases h
  | succ f => exact dfun_of f (by omega) (dblk_all f (by omega))
/-- Between two functions. -/
def PaI (t B : Nat) (w : World) (bl : Option Addr) (ts : List Tok) (r : PRes) (k : Nat) (wr : World) : Prop :=
  ∃ (ks : List Nd) (b : Option Addr) (cap j : Nat) (bad : Bool), NP w B t bl ts wr ks b cap j bad ∧ k ≤ 64012 ∧ ks.length + k ≤ 64012 ∧ Fl ts (fun j => r = .inl (rest ts j)) r j bad (fun l => P k 12 (nd 1 ks) 0 l)
set_option maxRecDepth 20000 in
set_option maxHeartbeats 1000000 in
theorem rparse_bad (s : ByteArray) (c : Int) (a : Nat) (w : World) (hR : scanAll s.data.toList = .inl (c, a)) : Calls Tryz.prog 9 #[.string s] w (POut w (.inl (c, a))) := by
  have hc := code_of hR
  have hq : (c == 0) = false := by simpa using hc
  have hPX := px_new w
  have hS : Calls Tryz.prog 16 #[.string s] ((w.alloc zbx).alloc (.cells #[.int .i64 0, .int .i64 0] 27)) fun e w' => (∃ b n d, e = .returned (.tuple #[.slice b n d, .agg #[.int .i64 c, .int .i64 (a : Nat)]])) ∧ Below ((w.alloc zbx).alloc (.cells #[.int .i64 0, .int .i64 0] 27)).heap.size ((w.alloc zbx).alloc (.cells #[.int .i64 0, .int .i64 0] 27)) w' := (rscan_any s _).mono fun e w' h => by
    rw [hR] at h
    obtain ⟨⟨b, n, d, h1, _⟩, h2⟩ := h
    exact ⟨⟨b, n, d, h1⟩, h2⟩
  clear hR
  go_enter Tryz.func9, Tryz.ntmps9
  go_wp2_with (go_at_call 16; refine hS.mono ?_; rintro e w1 ⟨⟨b1, n1, d1, rfl⟩, hb1⟩; refine Hid.out ?_)
  have hP1 := hPX.on hb1
  have hP2 := hP1.on (ext_alloc (Below.refl _ _) (.cells #[.int .i64 c, .int .i64 (a : Nat)] 27))
  obtain ⟨c0, c1, c2, c3, f0, f1, f2, f3⟩ := in4 hP1.g0
  obtain ⟨x0, x1, x2, x3, y0, y1, y2, y3⟩ := in4a hP1.g0
  obtain ⟨p0, p1, q0, q1⟩ := in2 hP1.g1
  have r0 := fun o => (in2 (block_alloc o hP1.g1)).c0
  have r1 := fun o => (in2 (block_alloc o hP1.g1)).c1
  have r2 := fun o => (in2 (block_alloc o hP1.g1)).f0
  have r3 := fun o => (in2 (block_alloc o hP1.g1)).f1
  have hz := block_lt hP1.g1
  have n1' : ¬ w.heap.size = w1.heap.size := by omega
  have n2' : ¬ w1.heap.size = w.heap.size := by omega
  have n3' : ¬ w.heap.size + 1 = w1.heap.size := by omega
  have n4' : ¬ w1.heap.size = w.heap.size + 1 := by omega
  refine Lib.hid ?_
  go_wp2
  go_region_with (fail)
  all_goals
    go_wp2
    obtain ⟨X, hX⟩ : ∃ X, ((((((w1.alloc (.cells #[.int .i64 c, .int .i64 (a : Nat)] 27)).setCell ⟨w.heap.size, 0, none⟩ (.int .i64 0)).setCell ⟨w.heap.size, 1, none⟩ (.string ⟨#[]⟩)).setCell ⟨w.heap.size, 2, none⟩ (.int .i64 0)).setCell ⟨w.heap.size, 3, none⟩ (.slice none 0 0)).setCell ⟨w.heap.size + 1, 0, none⟩ (.int .i64 c)).setCell ⟨w.heap.size + 1, 1, none⟩ (.int .i64 (a : Nat)) = X := ⟨_, rfl⟩
    obtain ⟨z1, z2, z3⟩ := px_fault hP2 c a hX
    rw [hX]
    clear hX
    exact bodyPost_ret (resP8 (W := X.drew) rfl rfl z1 z2) rfl ⟨rfl, z3.drew⟩
theorem tok_block {base : Nat} {W : World} {b : Option Addr} {n d : Nat} {ts : List Tok} (h : W.ownsRow base 55 3 (.slice b n d) ts.length (flatT ts)) (q : Nat) (hb : b = some ⟨q, 0, none⟩) (o : Obj) (m : Nat) (ho : W.heap[m]? = some o) (hne : ∀ cur z, o ≠ .cells cur 55 z) : q ≠ m := by
  rcases h.2 with ⟨e, h0⟩ | ⟨g, cap, cur, e, _, hg, _⟩
  · cases e; cases hb
  · cases e
    cases hb
    intro e
    subst e
    rw [hg] at ho
    exact hne _ _ (Option.some.inj ho).symm
set_option maxRecDepth 20000 in
set_option maxHeartbeats 2000000 in
theorem rparse_go (s : ByteArray) (ts : List Tok) (r : PRes) (Rz : (Int × Nat) ⊕ Nd) (w : World) (hR : scanAll s.data.toList = .inr ts) (hP : P 64012 12 (nd 1 []) 0 (ts.map pt) = some r) (hA : ∀ j, j ≤ ts.length → r = .inl (rest ts j) → Rz = .inl (2, fpos ts s.size j)) (hB : ∀ n l, r = .inr (n, l) → Rz = if fitB n then .inr n else .inl (1, 0)) : Calls Tryz.prog 9 #[.string s] w (POut w Rz) := by
  obtain ⟨hlen, hV, _⟩ := toks_of hR
  obtain ⟨i0, hi0, hz0, hz1', hz2⟩ := info_parts info24
  have hPX := px_new w
  have hS : Calls Tryz.prog 16 #[.string s] ((w.alloc zbx).alloc (.cells #[.int .i64 0, .int .i64 0] 27)) fun e w' => (∃ b d, e = .returned (.tuple #[.slice b ts.length d, .agg #[.int .i64 0, .int .i64 0]]) ∧ ts.length ≤ d ∧ TokAt w' b ts w'.heap.size ∧ (∀ q, b = some ⟨q, 0, none⟩ → ¬ q = w.heap.size ∧ ¬ q = w.heap.size + 1)) ∧ Below ((w.alloc zbx).alloc (.cells #[.int .i64 0, .int .i64 0] 27)).heap.size ((w.alloc zbx).alloc (.cells #[.int .i64 0, .int .i64 0] 27)) w' := (rscan_any s _).mono fun e w' h => by
    rw [hR] at h
    obtain ⟨⟨b, n, d, h1, h3⟩, h2⟩ := h
    obtain ⟨rfl, h4, h5⟩ := tokAt_of h3
    have hp := hPX.on h2
    exact ⟨⟨b, d, h1, h4, h5, fun q hq => ⟨tok_block h3 q hq _ _ hp.g0 (fun _ _ e => by cases e), tok_block h3 q hq _ _ hp.g1 (fun _ _ e => by cases e)⟩⟩, h2⟩
  clear hR
  obtain ⟨L, hL⟩ : ∃ L, ts.length = L := ⟨_, rfl⟩
  rw [hL] at hS
  go_enter Tryz.func9, Tryz.ntmps9
  go_wp2_with (go_at_call 16; refine hS.mono ?_; rintro e w1 ⟨⟨b1, d1, rfl, hd1, hT1, hQ⟩, hb1⟩; refine Hid.out ?_)
  have hP1 := hPX.on hb1
  have hz1 := block_lt hP1.g1
  have hb2 := ext_alloc (Below.refl w1.heap.size w1) (.cells #[.int .i64 0, .int .i64 0] 27)
  have hb3 := ext_alloc (Below.refl _ (w1.alloc (.cells #[.int .i64 0, .int .i64 0] 27))) (dbx b1 L d1 0 false)
  have hb4 := ext_alloc (Below.refl _ ((w1.alloc (.cells #[.int .i64 0, .int .i64 0] 27)).alloc (dbx b1 L d1 0 false))) (nbx (nd 1 []) none 0)
  have hbA := ext_trans (ext_trans hb2 hb3) hb4
  have gB := alloc_new (w1.alloc (.cells #[.int .i64 0, .int .i64 0] 27)) (dbx b1 L d1 0 false)
  have gt := alloc_new ((w1.alloc (.cells #[.int .i64 0, .int .i64 0] 27)).alloc (dbx b1 L d1 0 false)) (nbx (nd 1 []) none 0)
  rw [World.size_alloc] at gB
  rw [World.size_alloc, World.size_alloc] at gt
  have hTA := hT1.keep (Keeps.of_below (S := fun _ => False) hbA) (fun _ _ => id)
  have hI : PaI (w1.heap.size + 1 + 1) (w1.heap.size + 1) w b1 ts r 64012 (((w1.alloc (.cells #[.int .i64 0, .int .i64 0] 27)).alloc (dbx b1 L d1 0 false)).alloc (nbx (nd 1 []) none 0)) := by
    refine ⟨[], none, 0, 0, false, ⟨gt, Row.nil _ _, ⟨⟨b1, d1, ?_, hTA.mono (by omega), by rw [hL]; exact hd1⟩, by omega, by omega⟩, hP1.on hbA, hTA.mono (by omega), by omega, by omega⟩, by omega, by simp, .inr ⟨rfl, ?_⟩⟩
    · rw [hL]
      exact block_below hb4 gB
    · exact hP
  obtain ⟨B, hBe⟩ : ∃ m, w1.heap.size + 1 = m := ⟨_, rfl⟩
  rw [hBe] at hI
  obtain ⟨t, hte⟩ : ∃ m, B + 1 = m := ⟨_, rfl⟩
  rw [hte] at hI
  have hBt : B < t := by omega
  clear hP hS hb1 hP1 hPX hb2 hb3 hb4 hbA gB gt hTA hT1 hz1
  refine Lib.hid ?_
  go_wp2
  clear hte hBe
  go_loopg [8] 64012 (fun k _ wr => PaI t B w b1 ts r k wr)
  case atStart => exact hI
  case round =>
    obtain ⟨ks, b, cap, j, bad, hN, hgf, hle, hFl⟩ := hrel
    clear hI
    have hR1 := hN.R
    obtain ⟨c0, c1, c2, c3, f0, f1, f2, f3⟩ := in4 hN.g
    obtain ⟨b', cap', s0, s1, s2, v1, v2⟩ := hR1.cells
    have hjl := hR1.le
    rw [hL] at hjl
    rcases hFl with ⟨rfl, hFi⟩ | ⟨rfl, hP⟩
    · obtain rfl := hA j hR1.le hFi
      clear hA hB hFi
      obtain ⟨k0, k1, k2, k3, l0, l1, l2, l3⟩ := in4 hN.X.g0
      obtain ⟨p0, p1, q0, q1⟩ := in2 hN.X.g1
      by_cases hlt : j < L
      · have hdec : decide (j < L) = true := decide_eq_true hlt
        obtain ⟨x, hx⟩ : ∃ x, ts[j]? = some x := ⟨_, List.getElem?_eq_getElem (by omega)⟩
        obtain ⟨kx, tx0, ax⟩ := x
        have hfp : fpos ts s.size j = ax := by unfold fpos; rw [hx]
        rcases hN.T with h0 | ⟨q, rfl, hq1, hq2, hcells⟩
        · rw [h0] at hx; simp at hx
        have t0 : wr.cell? ⟨q, j * 3, none⟩ = some (.int .i64 kx) := hcells j _ hx 0 _ rfl
        have t1 := hcells j _ hx 1 _ rfl
        have t2 := hcells j _ hx 2 _ rfl
        dsimp only at t1 t2
        have hge : decide (L ≤ j) = false := decide_eq_false (by omega)
        have hi' : (j : Int) < (L : Int) := by omega
        have m1 : ¬ B = w.heap.size := by have := hN.hB; omega
        have m2 : ¬ w.heap.size = B := by omega
        have m3 := (hQ q rfl).1
        have m4 : ¬ w.heap.size = q := fun e => m3 e.symm
        have m5 : ¬ B = w.heap.size + 1 := by have := hN.hB; omega
        have m6 : ¬ w.heap.size + 1 = B := by omega
        have m7 := (hQ q rfl).2
        have m8 : ¬ w.heap.size + 1 = q := fun e => m7 e.symm
        clear hcells hx
        replace hfp : Hid _ := hfp
        go_wp2
        go_region_held3 (fun u => u.cell? ⟨B, 1, none⟩ = some (.int .i64 (j : Nat)) ∧ u.cell? ⟨q, j * 3 + 2, none⟩ = some (.int .i64 (ax : Nat))) (go_keep) (fail)
        obtain ⟨X, hX⟩ : ∃ X, (((((wr.setCell ⟨w.heap.size, 0, none⟩ (.int .i64 0)).setCell ⟨w.heap.size, 1, none⟩ (.string ⟨#[]⟩)).setCell ⟨w.heap.size, 2, none⟩ (.int .i64 0)).setCell ⟨w.heap.size, 3, none⟩ (.slice none 0 0)).setCell ⟨w.heap.size + 1, 0, none⟩ (.int .i64 2)).setCell ⟨w.heap.size + 1, 1, none⟩ (.int .i64 (ax : Nat)) = X := ⟨_, rfl⟩
        obtain ⟨z1, z2, z3⟩ := px_fault hN.X 2 ax hX
        try rw [hX]
        clear hX
        rw [← hfp.out] at z2
        go_wp2
        exact bodyPost_ret (resP8 (W := X.drew) rfl rfl z1 z2) rfl ⟨rfl, z3.drew⟩
      · have hdec : decide (j < L) = false := decide_eq_false hlt
        have hfp : fpos ts s.size j = s.size := by unfold fpos; rw [List.getElem?_eq_none (by omega)]
        replace hfp : Hid _ := hfp
        go_wp2
        obtain ⟨X, hX⟩ : ∃ X, (((((wr.setCell ⟨w.heap.size, 0, none⟩ (.int .i64 0)).setCell ⟨w.heap.size, 1, none⟩ (.string ⟨#[]⟩)).setCell ⟨w.heap.size, 2, none⟩ (.int .i64 0)).setCell ⟨w.heap.size, 3, none⟩ (.slice none 0 0)).setCell ⟨w.heap.size + 1, 0, none⟩ (.int .i64 2)).setCell ⟨w.heap.size + 1, 1, none⟩ (.int .i64 (s.size : Nat)) = X := ⟨_, rfl⟩
        obtain ⟨z1, z2, z3⟩ := px_fault hN.X 2 s.size hX
        try rw [hX]
        clear hX
        rw [← hfp.out] at z2
        exact bodyPost_ret (resP8 rfl rfl z1 z2) rfl ⟨rfl, z3⟩
    clear hA
    cases gk with
    | zero => cases hP
    | succ k =>
    dsimp only at hP
    rw [P] at hP
    by_cases hend : j = L
    · subst hend
      rw [if_pos (rest_end (by omega))] at hP
      have hRz := hB _ _ (Option.some.inj hP).symm
      clear hP hB
      have hdec : decide (j < j) = false := decide_eq_false (by omega)
      have hNd : NdV (fun q => t < q) wr (nd 1 ks) (ndv (nd 1 ks) b cap) := hN.row.node 1 [] 0
      have hFt := rfits_any _ (nd 1 ks) b cap wr hNd
      cases hfb : fitB (nd 1 ks) with
      | true =>
        rw [hfb] at hFt hRz
        rw [if_pos rfl] at hRz
        subst hRz
        go_wp2_with (go_at_call 18; refine hFt.mono ?_; rintro e w5 ⟨rfl, hb5⟩; refine Hid.out ?_)
        have hN5 := hN.below hb5
        have hNd5 := hNd.below hb5
        obtain ⟨c0, c1, c2, c3, f0, f1, f2, f3⟩ := in4 hN5.g
        obtain ⟨k0, k1, k2, k3, l0, l1, l2, l3⟩ := in4 hN5.X.g0
        obtain ⟨p0, p1, q0, q1⟩ := in2 hN5.X.g1
        have hBs := hN.hB
        refine Lib.hid ?_
        go_wp2
        have hkA : Keeps (fun q => q = w.heap.size ∨ q = w.heap.size + 1) w5 (pu2 (put4 w5 w.heap.size (.int .i64 1) (sk []) (.int .i64 0) (.slice b ks.length cap)) (w.heap.size + 1) (.int .i64 0) (.int .i64 0)) := ((put4_self _ _ _ _ _ _).mono (fun q _ e => .inl e)).then (pu2_self _ _ _ _) (fun q _ e => .inr e)
        have z1 : (pu2 (put4 w5 w.heap.size (.int .i64 1) (sk []) (.int .i64 0) (.slice b ks.length cap)) (w.heap.size + 1) (.int .i64 0) (.int .i64 0)).heap[w.heap.size]? = some (nbx (nd 1 ks) b cap) := (pu2_other _ _ (by omega)).trans (put4_same _ _ _ _ hN5.X.g0)
        have z2 : (pu2 (put4 w5 w.heap.size (.int .i64 1) (sk []) (.int .i64 0) (.slice b ks.length cap)) (w.heap.size + 1) (.int .i64 0) (.int .i64 0)).heap[w.heap.size + 1]? = some (.cells #[.int .i64 0, .int .i64 0] 27) := pu2_same _ _ ((put4_other _ _ _ _ (by omega)).trans hN5.X.g1)
        have z3 := ((Keeps.of_below (S := no) hN5.X.bl).then hkA (fun q hq e => by omega)).below (Nat.le_refl _) (fun _ _ => id)
        refine bodyPost_ret (resP8 rfl rfl z1 z2) rfl ⟨⟨hfb, b, cap, rfl, ?_⟩, z3⟩
        exact (hNd5.keep hkA (fun q hq _ e => by omega)).weak (fun q hq _ => by omega)
      | false =>
        rw [hfb] at hFt hRz
        rw [if_neg (by decide)] at hRz
        subst hRz
        go_wp2_with (go_at_call 18; refine hFt.mono ?_; rintro e w5 ⟨rfl, hb5⟩; refine Hid.out ?_)
        have hN5 := hN.below hb5
        obtain ⟨k0, k1, k2, k3, l0, l1, l2, l3⟩ := in4 hN5.X.g0
        obtain ⟨p0, p1, q0, q1⟩ := in2 hN5.X.g1
        refine Lib.hid ?_
        go_wp2
        obtain ⟨X, hX⟩ : ∃ X, (((((w5.setCell ⟨w.heap.size, 0, none⟩ (.int .i64 0)).setCell ⟨w.heap.size, 1, none⟩ (.string ⟨#[]⟩)).setCell ⟨w.heap.size, 2, none⟩ (.int .i64 0)).setCell ⟨w.heap.size, 3, none⟩ (.slice none 0 0)).setCell ⟨w.heap.size + 1, 0, none⟩ (.int .i64 1)).setCell ⟨w.heap.size + 1, 1, none⟩ (.int .i64 0) = X := ⟨_, rfl⟩
        obtain ⟨z1, z2', z3⟩ := px_fault hN5.X 1 0 hX
        have z2 : X.heap[w.heap.size + 1]? = some (.cells #[.int .i64 1, .int .i64 0] 27) := z2'
        clear z2'
        try rw [hX]
        clear hX
        exact bodyPost_ret (resP8 rfl rfl z1 z2) rfl ⟨rfl, z3⟩
    · have hlt : j < L := by omega
      have hne : rest ts j ≠ [] := fun e => by have := rest_len ts j; rw [e, hL] at this; simp at this; omega
      rw [if_neg hne] at hP
      have hdec : decide (j < L) = true := decide_eq_true hlt
      have hcall := fun u (h : Dr u B ts j false) => dfun_at k (by omega) r (fun j => r = .inl (rest ts j)) _ B ts j u ⟨hV, fun j _ h => h⟩ h hP
      clear hP hB
      go_wp2_with (first | (go_at_call 17; refine (hcall _ hR1).mono ?_; rintro e w4 ⟨y, by1, cy, j4, bad4, rfl, hN4, hR4, hk4, hFl4⟩; refine Hid.out ?_))
      have hNP4 := hN.on hk4 hR4
      obtain ⟨c0, c1, c2, c3, f0, f1, f2, f3⟩ := in4 hNP4.g
      obtain ⟨x0, x1, x2, x3, y0, y1, y2, y3⟩ := in4a hNP4.g
      clear hcall
      refine Lib.hid ?_
      go_wp2_with (at_builtin; refine Hid.out ?_)
      have hb5 := ext_alloc (ext_alloc (Below.refl w4.heap.size w4) (nbx y by1 cy)) (nbx y by1 cy)
      have hnew := alloc_new (w4.alloc (nbx y by1 cy)) (nbx y by1 cy)
      rw [World.size_alloc] at hnew
      have hN5 := hNP4.below hb5
      have hz4 := block_lt hN.g
      have hown4 := hN.own
      have hy5 : NdV (fun q => t < q ∧ some q ≠ Value.ownBlock (.slice b ks.length cap)) ((w4.alloc (nbx y by1 cy)).alloc (nbx y by1 cy)) y (ndv y by1 cy) := (hN4.weak (fun q hq _ => by have := hq.resolve_left id; exact ⟨by omega, fun e => by have := (hown4 q e.symm).2; omega⟩)).below hb5
      obtain ⟨Wq, hWq⟩ : ∃ V, (w4.alloc (nbx y by1 cy)).alloc (nbx y by1 cy) = V := ⟨_, rfl⟩
      rw [hWq] at hnew hN5 hy5
      replace hWq : (w4.alloc (.cells #[.int .i64 y.k, .string ⟨y.t.toArray⟩, .int .i64 y.n, .slice by1 y.kids.length cy] 24)).alloc (.cells #[.int .i64 y.k, .string ⟨y.t.toArray⟩, .int .i64 y.n, .slice by1 y.kids.length cy] 24) = Wq := hWq
      rw [hWq]
      obtain ⟨xs, ho, _, hn⟩ := hN5.row.own
      have q35 := hN5.g
      have hne3 : some t ≠ Value.ownBlock (.slice b ks.length cap) := fun e => by have := (hN5.own _ e.symm).1; omega
      have hn1 : ks.length + 1 ≤ maxLen := by unfold maxLen; omega
      have hb1 : (ks.length + 1) * 56 ≤ 140737488355328 := by omega
      clear hWq hb5 c0 c1 c2 c3 f0 f1 f2 f3 x0 x1 x2 x3 y0 y1 y2 y3 hN hN4 hR1 hR4 hk4 hNP4 s0 s1 s2 v1 v2 hown4
      refine Lib.hid ?_
      go_wp2_with (at_builtin; refine wpList_append_lies _ (by rfl) _ _ _ (by rfl) 0 24 i0 _ 4 56 Tryz.underlying22 hi0 hz0 hz1' hz2 rfl (by omega) (.slice b ks.length cap) ks.length _ (by rfl) ho ⟨w4.heap.size + 1, 0, none⟩ 1 1 _ (by rfl) (by rfl) (cells_of y by1 cy hnew) (by simp [Value.oneCell']) (by omega) hn1 hb1 (Nat.zero_le _) _ rfl ?_; intro g3 cap3 w5 hown1 hgrow hat1 hlt1; have p3w := (hgrow.block _ (block_lt q35) hne3).trans q35; obtain ⟨c0, c1, c2, c3, f0, f1, f2, f3⟩ := in4 p3w)
      have hN6 := hN5.app ho hn hy5 hown1 hgrow hat1 rfl
      go_roundg k
      case measure => omega
      case rel => exact ⟨ks ++ [y], _, _, j4, bad4, hN6, by omega, by simp; omega, hFl4⟩
theorem rparse_any (s : ByteArray) (w : World) : Calls Tryz.prog 9 #[.string s] w (POut w (parseR s.data.toList)) := by
  have esz : s.size = s.data.toList.length := by simp
  cases hR : scanAll s.data.toList with
  | inl x =>
    obtain ⟨c, a⟩ := x
    unfold parseR
    rw [hR]
    exact rparse_bad s c a w hR
  | inr ts =>
    obtain ⟨_, _, r, hr⟩ := toks_of hR
    refine rparse_go s ts r _ w hR hr ?_ ?_
    · intro j hj e
      unfold parseR
      simp only [hR, hr, e]
      rw [rest_len, esz, show ts.length - (ts.length - j) = j by omega]
    · intro n l e
      unfold parseR
      simp only [hR, hr, e]
end Go.Proofs.YtnnppenlfocgiaaGreatDoor
