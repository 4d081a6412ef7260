/- The document's small questions to a node. May a node of a kind stand there? What stands first; how closely a node binds. What stands first of indices (and calls). -/
import Derived.Test.YtbdkiimggggndaaGreatDoorJ16
import Derived.Test.YtbdkiimggggndaaGreatDoorJ14
import Derived.Test.YtbdkiimggggndaaGreatDoorJ06
namespace Go.Proofs.YtbdkiimggggndaaGreatDoor
open Go.RowKit
open Go

def frI (a n b : Int) : Bool := decide (a ≤ n) && decide (n ≤ b)
theorem isStat_any (k : Int) (w : World) : Calls Tryz.prog 84 #[.int .i64 k] w fun e w' => e = .returned (.bool (frI 5 k 12)) ∧ w' = w := by
  rcases (Bool.eq_false_or_eq_true (decide (5 ≤ k))) with hn | hn
  all_goals
    go_enter Tryz.func84, Tryz.ntmps84
    go_wp2
    go_ret
    exact ⟨by simp [frI, hn], rfl⟩
theorem isExpr_any (k : Int) (w : World) : Calls Tryz.prog 85 #[.int .i64 k] w fun e w' => e = .returned (.bool (frI 13 k 26)) ∧ w' = w := by
  rcases (Bool.eq_false_or_eq_true (decide (13 ≤ k))) with hn | hn
  all_goals
    go_enter Tryz.func85, Tryz.ntmps85
    go_wp2
    go_ret
    exact ⟨by simp [frI, hn], rfl⟩

set_option maxRecDepth 20000 in
set_option maxHeartbeats 1000000 in
theorem quot_any (s : ByteArray) (hs : s.size ≤ 9000000000000000000) (w : World) : Calls Tryz.prog 48 #[.string s] w fun e w' => e = .returned (.bool (quotB s.data.toList)) ∧ w' = w := by
  obtain ⟨V, hV⟩ : ∃ V, quotB s.data.toList = V := ⟨_, rfl⟩
  rw [hV]
  have hl : s.data.toList.length = s.size := by simp
  replace hV : Hid _ := hV
  replace hl : Hid _ := hl
  go_enter Tryz.func48, Tryz.ntmps48
  go_wp2
  go_loop [3] (fun i => ∃ k : Nat, k ≤ s.size ∧ i = .int .i64 k ∧ ∀ j d, j < k → s.data.toList[j]? = some d → txtB d = true) (fun i => s.size - (intOf i).toNat)
  case atStart => exact ⟨0, by omega, rfl, fun i d h => by omega⟩
  case round =>
    obtain ⟨k, hk, rfl, hno⟩ := hrel
    replace hno : Hid _ := hno
    by_cases hlt : k < s.size
    · have hlt' : (k : Int) < (s.size : Int) := by omega
      have hc : s.data.toList[k]? = some s[k] := byte_at hlt
      have hbad : txtB s[k] = false → Hid (V = false) := fun h => by
        rw [← hV.out]
        have : s.data.toList.all txtB = false := by
          rw [List.all_eq_false]
          exact ⟨_, List.mem_of_getElem? hc, by rw [h]; simp⟩
        unfold quotB
        rw [this]
        exact rfl
      have hnext : txtB s[k] = true → Hid (∀ j d, j < k + 1 → s.data.toList[j]? = some d → txtB d = true) := fun h j d hj hd => by
        by_cases e : j = k
        · subst e; rw [hc] at hd; cases hd; exact h
        · exact hno.out j d (by omega) hd
      replace hbad : Hid _ := hbad
      replace hnext : Hid _ := hnext
      clear hc
      by_cases a1 : (s[k].toNat : Int) < 32
      · have hf := hbad.out (by simp [txtB]; omega)
        go_wp2
        go_ret
        exact ⟨by rw [hf.out]; rfl, rfl⟩
      · by_cases a2 : (126 : Int) < (s[k].toNat : Int)
        · have hf := hbad.out (by simp [txtB]; omega)
          go_wp2
          go_ret
          exact ⟨by rw [hf.out]; rfl, rfl⟩
        · cases a3 : ((s[k].toNat : Int) == 34)
          · have hf := hnext.out (by simp at a3; simp [txtB]; omega)
            go_wp2
            go_round
            case rel => exact ⟨k + 1, by omega, by go_num, hf.out⟩
            case measure => simp [intOf]; omega
          · have hf := hbad.out (by simp at a3; simp [txtB]; omega)
            go_wp2
            go_ret
            exact ⟨by rw [hf.out]; rfl, rfl⟩
    · have hge : ¬ (k : Int) < (s.size : Int) := by omega
      have e : V = decide (s.size ≤ 300) := by
        rw [← hV.out]
        unfold quotB
        rw [hl.out, List.all_eq_true.2 (fun d hd => ?_)]
        · rfl
        · obtain ⟨j, hj⟩ := List.getElem?_of_mem hd
          exact hno.out j d (by have := (List.getElem?_eq_some_iff.1 hj).1; have := hl.out; omega) hj
      replace e : Hid _ := e
      go_wp2
      go_ret
      exact ⟨by rw [e.out]; exact congrArg (fun x => Ending.returned (Value.bool x)) (decide_eq_decide.2 (by omega)), rfl⟩

/-- What it tells of an operation. -/
def soV (o : Int) : Value := match opOf o with
  | some (t, k) => .tuple #[sk t, .int .i64 (k : Nat)]
  | none => .tuple #[sk [], .int .i64 (-1)]
theorem opOf_none {o : Int} (h : ∀ (j : Nat) (p : List UInt8 × Int × Nat), opsL[j]? = some p → ¬ p.2.1 = o) : opOf o = none := by
  unfold opOf
  rw [List.find?_eq_none.2]
  · rfl
  intro p hp
  obtain ⟨j, hj⟩ := List.getElem?_of_mem hp
  simpa using h j p hj
theorem ops_nums : ∀ i, i < 11 → ∀ j, j < 11 → (opsL.getD i ([], 0, 0)).2.1 = (opsL.getD j ([], 0, 0)).2.1 → i = j := by decide
theorem opOf_some {o : Int} {j : Nat} {p : List UInt8 × Int × Nat} (hj : opsL[j]? = some p) (ht : p.2.1 = o) : opOf o = some (p.1, p.2.2) := by
  unfold opOf
  cases hf : opsL.find? (fun p => p.2.1 == o) with
  | none =>
    have := List.find?_eq_none.1 hf p (List.mem_of_getElem? hj)
    simp [ht] at this
  | some q =>
    have hq : q.2.1 = o := by simpa using List.find?_some hf
    obtain ⟨i, hi⟩ := List.getElem?_of_mem (List.mem_of_find?_eq_some hf)
    have e1 : opsL.getD i ([], 0, 0) = q := by simp [List.getD, hi]
    have e2 : opsL.getD j ([], 0, 0) = p := by simp [List.getD, hj]
    have := ops_nums i (List.getElem?_eq_some_iff.1 hi).1 j (List.getElem?_eq_some_iff.1 hj).1 (by rw [e1, e2, hq, ht])
    subst this
    rw [hj] at hi
    cases hi
    rfl
set_option maxRecDepth 20000 in
set_option maxHeartbeats 1000000 in
theorem signOf_any (o : Int) (w : World) : Calls Tryz.prog 49 #[.int .i64 o] w fun e w' => e = .returned (soV o) ∧ Below w.heap.size w w' := by
  obtain ⟨V, hV⟩ : ∃ V, soV o = V := ⟨_, rfl⟩
  rw [hV]
  replace hV : Hid _ := hV
  have hS := signs_any w
  have hb0 := ext_alloc (Below.refl w.heap.size w) sgO
  have g0 := alloc_new w sgO
  obtain ⟨W, hW⟩ : ∃ W, w.alloc sgO = W := ⟨_, rfl⟩
  rw [hW] at hS hb0 g0
  clear hW
  have hO := ops_any W
  go_enter Tryz.func49, Tryz.ntmps49
  go_wp2_with (first | (go_at_call 82; refine hS.mono ?_; rintro e w1 ⟨rfl, hw'⟩; rw [hw']; clear hw') | (go_at_call 83; refine hO.mono ?_; rintro e w2 ⟨p, q, rfl, g1, g2, hb2⟩; have g0' := block_below hb2 g0; have hbw := ext_trans hb0 hb2))
  clear hO hS hb0 hb2 g0
  go_loop [7] (fun i => ∃ j : Nat, j ≤ 11 ∧ i = .int .i64 j ∧ ∀ (k : Nat) (p : List UInt8 × Int × Nat), k < j → opsL[k]? = some p → ¬ p.2.1 = o) (fun i => 11 - (intOf i).toNat)
  case atStart => exact ⟨0, by omega, rfl, fun i d h => by omega⟩
  case round =>
    obtain ⟨j, hj, rfl, hno⟩ := hrel
    replace hno : Hid _ := hno
    by_cases hlt : j < 11
    · have hlt' : (j : Int) < 11 := by omega
      obtain ⟨x, hx⟩ : ∃ x, opsL[j]? = some x := ⟨_, List.getElem?_eq_getElem (show j < opsL.length from hlt)⟩
      have d0 : w2.cell? ⟨w.heap.size, j, none⟩ = some (sk x.1) := cell_block g0' (by simp [hx])
      have d1 : w2.cell? ⟨p, j, none⟩ = some (.int .i64 x.2.1) := cell_block g1 (by simp [hx])
      have d2 : w2.cell? ⟨q, j, none⟩ = some (.int .i64 (x.2.2 : Nat)) := cell_block g2 (by simp [hx])
      by_cases hxt : x.2.1 = o
      · have hV0 : V = .tuple #[sk x.1, .int .i64 (x.2.2 : Nat)] := by rw [← hV.out]; unfold soV; rw [opOf_some hx hxt]
        subst hV0
        rw [hxt] at d1
        clear hx hxt
        go_wp2
        go_quiet (fail)
        go_wp2
        go_ret2
        exact ⟨rfl, drewN_below hbw⟩
      · have hp : Hid (∀ (k : Nat) (p : List UInt8 × Int × Nat), k < j + 1 → opsL[k]? = some p → ¬ p.2.1 = o) := by
          intro k y hk hy
          by_cases e : k = j
          · subst e; rw [hx] at hy; cases hy; exact hxt
          · exact hno.out k y (by omega) hy
        have hneb : (x.2.1 == o) = false := by simpa using hxt
        obtain ⟨x1, x2, x3⟩ := x
        simp only at d1 hneb
        clear hx hxt d0 d2
        go_wp2
        go_round
        case rel => exact ⟨j + 1, by omega, by go_num, hp.out⟩
        case measure => simp [intOf]; omega
    · have hge : ¬ (j : Int) < 11 := by omega
      have hV1 : V = .tuple #[sk [], .int .i64 (-1)] := by
        rw [← hV.out]; unfold soV
        rw [opOf_none (fun k p hk => hno.out k p (by have : k < 11 := (List.getElem?_eq_some_iff.1 hk).1; omega) hk)]
      subst hV1
      go_wp2
      go_ret2
      exact ⟨rfl, hbw⟩

/-- How many kids a node of a kind has, whether it has a name, whether there is such a kind. -/
def cntR (k : Int) : Int × Int × Bool × Bool :=
  if k = 1 ∨ k = 4 then (0, -1, false, true)
  else if k = 2 then (1, -1, true, true)
  else if k = 3 ∨ k = 18 then (0, 0, true, true)
  else if k = 5 then (1, 1, true, true)
  else if k = 10 then (3, 3, true, true)
  else if k = 6 ∨ k = 9 ∨ k = 20 ∨ k = 22 ∨ k = 26 then (2, 2, false, true)
  else if k = 8 then (2, 3, false, true)
  else if k = 7 ∨ k = 11 ∨ k = 12 ∨ k = 23 ∨ k = 24 ∨ k = 25 then (1, 1, false, true)
  else if k = 13 ∨ k = 14 ∨ k = 15 ∨ k = 16 ∨ k = 17 ∨ k = 19 then (0, 0, false, true)
  else if k = 21 then (1, -1, false, true)
  else (0, 0, false, false)
abbrev cntV (c : Int × Int × Bool × Bool) : Value := .tuple #[.int .i64 c.1, .int .i64 c.2.1, .bool c.2.2.1, .bool c.2.2.2]
theorem counts_1 (w : World) : Calls Tryz.prog 46 #[.int .i64 1] w fun e w' => e = .returned (cntV (0, -1, false, true)) ∧ w' = w := by
  go_enter Tryz.func46, Tryz.ntmps46
  go_wp2
  exact bodyPost_ret (v := cntV (0, -1, false, true)) (by simp [results, Tryz.results46, go_sem]) rfl ⟨rfl, rfl⟩
theorem counts_2 (w : World) : Calls Tryz.prog 46 #[.int .i64 2] w fun e w' => e = .returned (cntV (1, -1, true, true)) ∧ w' = w := by
  go_enter Tryz.func46, Tryz.ntmps46
  go_wp2
  exact bodyPost_ret (v := cntV (1, -1, true, true)) (by simp [results, Tryz.results46, go_sem]) rfl ⟨rfl, rfl⟩
theorem counts_3 (w : World) : Calls Tryz.prog 46 #[.int .i64 3] w fun e w' => e = .returned (cntV (0, 0, true, true)) ∧ w' = w := by
  go_enter Tryz.func46, Tryz.ntmps46
  go_wp2
  exact bodyPost_ret (v := cntV (0, 0, true, true)) (by simp [results, Tryz.results46, go_sem]) rfl ⟨rfl, rfl⟩
theorem counts_4 (w : World) : Calls Tryz.prog 46 #[.int .i64 4] w fun e w' => e = .returned (cntV (0, -1, false, true)) ∧ w' = w := by
  go_enter Tryz.func46, Tryz.ntmps46
  go_wp2
  exact bodyPost_ret (v := cntV (0, -1, false, true)) (by simp [results, Tryz.results46, go_sem]) rfl ⟨rfl, rfl⟩
theorem counts_5 (w : World) : Calls Tryz.prog 46 #[.int .i64 5] w fun e w' => e = .returned (cntV (1, 1, true, true)) ∧ w' = w := by
  go_enter Tryz.func46, Tryz.ntmps46
  go_wp2
  exact bodyPost_ret (v := cntV (1, 1, true, true)) (by simp [results, Tryz.results46, go_sem]) rfl ⟨rfl, rfl⟩
theorem counts_6 (w : World) : Calls Tryz.prog 46 #[.int .i64 6] w fun e w' => e = .returned (cntV (2, 2, false, true)) ∧ w' = w := by
  go_enter Tryz.func46, Tryz.ntmps46
  go_wp2
  exact bodyPost_ret (v := cntV (2, 2, false, true)) (by simp [results, Tryz.results46, go_sem]) rfl ⟨rfl, rfl⟩
theorem counts_7 (w : World) : Calls Tryz.prog 46 #[.int .i64 7] w fun e w' => e = .returned (cntV (1, 1, false, true)) ∧ w' = w := by
  go_enter Tryz.func46, Tryz.ntmps46
  go_wp2
  exact bodyPost_ret (v := cntV (1, 1, false, true)) (by simp [results, Tryz.results46, go_sem]) rfl ⟨rfl, rfl⟩
theorem counts_8 (w : World) : Calls Tryz.prog 46 #[.int .i64 8] w fun e w' => e = .returned (cntV (2, 3, false, true)) ∧ w' = w := by
  go_enter Tryz.func46, Tryz.ntmps46
  go_wp2
  exact bodyPost_ret (v := cntV (2, 3, false, true)) (by simp [results, Tryz.results46, go_sem]) rfl ⟨rfl, rfl⟩
theorem counts_9 (w : World) : Calls Tryz.prog 46 #[.int .i64 9] w fun e w' => e = .returned (cntV (2, 2, false, true)) ∧ w' = w := by
  go_enter Tryz.func46, Tryz.ntmps46
  go_wp2
  exact bodyPost_ret (v := cntV (2, 2, false, true)) (by simp [results, Tryz.results46, go_sem]) rfl ⟨rfl, rfl⟩
theorem counts_10 (w : World) : Calls Tryz.prog 46 #[.int .i64 10] w fun e w' => e = .returned (cntV (3, 3, true, true)) ∧ w' = w := by
  go_enter Tryz.func46, Tryz.ntmps46
  go_wp2
  exact bodyPost_ret (v := cntV (3, 3, true, true)) (by simp [results, Tryz.results46, go_sem]) rfl ⟨rfl, rfl⟩
theorem counts_11 (w : World) : Calls Tryz.prog 46 #[.int .i64 11] w fun e w' => e = .returned (cntV (1, 1, false, true)) ∧ w' = w := by
  go_enter Tryz.func46, Tryz.ntmps46
  go_wp2
  exact bodyPost_ret (v := cntV (1, 1, false, true)) (by simp [results, Tryz.results46, go_sem]) rfl ⟨rfl, rfl⟩
theorem counts_12 (w : World) : Calls Tryz.prog 46 #[.int .i64 12] w fun e w' => e = .returned (cntV (1, 1, false, true)) ∧ w' = w := by
  go_enter Tryz.func46, Tryz.ntmps46
  go_wp2
  exact bodyPost_ret (v := cntV (1, 1, false, true)) (by simp [results, Tryz.results46, go_sem]) rfl ⟨rfl, rfl⟩
theorem counts_13 (w : World) : Calls Tryz.prog 46 #[.int .i64 13] w fun e w' => e = .returned (cntV (0, 0, false, true)) ∧ w' = w := by
  go_enter Tryz.func46, Tryz.ntmps46
  go_wp2
  exact bodyPost_ret (v := cntV (0, 0, false, true)) (by simp [results, Tryz.results46, go_sem]) rfl ⟨rfl, rfl⟩
theorem counts_14 (w : World) : Calls Tryz.prog 46 #[.int .i64 14] w fun e w' => e = .returned (cntV (0, 0, false, true)) ∧ w' = w := by
  go_enter Tryz.func46, Tryz.ntmps46
  go_wp2
  exact bodyPost_ret (v := cntV (0, 0, false, true)) (by simp [results, Tryz.results46, go_sem]) rfl ⟨rfl, rfl⟩
theorem counts_15 (w : World) : Calls Tryz.prog 46 #[.int .i64 15] w fun e w' => e = .returned (cntV (0, 0, false, true)) ∧ w' = w := by
  go_enter Tryz.func46, Tryz.ntmps46
  go_wp2
  exact bodyPost_ret (v := cntV (0, 0, false, true)) (by simp [results, Tryz.results46, go_sem]) rfl ⟨rfl, rfl⟩
theorem counts_16 (w : World) : Calls Tryz.prog 46 #[.int .i64 16] w fun e w' => e = .returned (cntV (0, 0, false, true)) ∧ w' = w := by
  go_enter Tryz.func46, Tryz.ntmps46
  go_wp2
  exact bodyPost_ret (v := cntV (0, 0, false, true)) (by simp [results, Tryz.results46, go_sem]) rfl ⟨rfl, rfl⟩
theorem counts_17 (w : World) : Calls Tryz.prog 46 #[.int .i64 17] w fun e w' => e = .returned (cntV (0, 0, false, true)) ∧ w' = w := by
  go_enter Tryz.func46, Tryz.ntmps46
  go_wp2
  exact bodyPost_ret (v := cntV (0, 0, false, true)) (by simp [results, Tryz.results46, go_sem]) rfl ⟨rfl, rfl⟩
theorem counts_18 (w : World) : Calls Tryz.prog 46 #[.int .i64 18] w fun e w' => e = .returned (cntV (0, 0, true, true)) ∧ w' = w := by
  go_enter Tryz.func46, Tryz.ntmps46
  go_wp2
  exact bodyPost_ret (v := cntV (0, 0, true, true)) (by simp [results, Tryz.results46, go_sem]) rfl ⟨rfl, rfl⟩
theorem counts_19 (w : World) : Calls Tryz.prog 46 #[.int .i64 19] w fun e w' => e = .returned (cntV (0, 0, false, true)) ∧ w' = w := by
  go_enter Tryz.func46, Tryz.ntmps46
  go_wp2
  exact bodyPost_ret (v := cntV (0, 0, false, true)) (by simp [results, Tryz.results46, go_sem]) rfl ⟨rfl, rfl⟩
theorem counts_20 (w : World) : Calls Tryz.prog 46 #[.int .i64 20] w fun e w' => e = .returned (cntV (2, 2, false, true)) ∧ w' = w := by
  go_enter Tryz.func46, Tryz.ntmps46
  go_wp2
  exact bodyPost_ret (v := cntV (2, 2, false, true)) (by simp [results, Tryz.results46, go_sem]) rfl ⟨rfl, rfl⟩
theorem counts_21 (w : World) : Calls Tryz.prog 46 #[.int .i64 21] w fun e w' => e = .returned (cntV (1, -1, false, true)) ∧ w' = w := by
  go_enter Tryz.func46, Tryz.ntmps46
  go_wp2
  exact bodyPost_ret (v := cntV (1, -1, false, true)) (by simp [results, Tryz.results46, go_sem]) rfl ⟨rfl, rfl⟩
theorem counts_22 (w : World) : Calls Tryz.prog 46 #[.int .i64 22] w fun e w' => e = .returned (cntV (2, 2, false, true)) ∧ w' = w := by
  go_enter Tryz.func46, Tryz.ntmps46
  go_wp2
  exact bodyPost_ret (v := cntV (2, 2, false, true)) (by simp [results, Tryz.results46, go_sem]) rfl ⟨rfl, rfl⟩
theorem counts_23 (w : World) : Calls Tryz.prog 46 #[.int .i64 23] w fun e w' => e = .returned (cntV (1, 1, false, true)) ∧ w' = w := by
  go_enter Tryz.func46, Tryz.ntmps46
  go_wp2
  exact bodyPost_ret (v := cntV (1, 1, false, true)) (by simp [results, Tryz.results46, go_sem]) rfl ⟨rfl, rfl⟩
theorem counts_24 (w : World) : Calls Tryz.prog 46 #[.int .i64 24] w fun e w' => e = .returned (cntV (1, 1, false, true)) ∧ w' = w := by
  go_enter Tryz.func46, Tryz.ntmps46
  go_wp2
  exact bodyPost_ret (v := cntV (1, 1, false, true)) (by simp [results, Tryz.results46, go_sem]) rfl ⟨rfl, rfl⟩
theorem counts_25 (w : World) : Calls Tryz.prog 46 #[.int .i64 25] w fun e w' => e = .returned (cntV (1, 1, false, true)) ∧ w' = w := by
  go_enter Tryz.func46, Tryz.ntmps46
  go_wp2
  exact bodyPost_ret (v := cntV (1, 1, false, true)) (by simp [results, Tryz.results46, go_sem]) rfl ⟨rfl, rfl⟩
theorem counts_26 (w : World) : Calls Tryz.prog 46 #[.int .i64 26] w fun e w' => e = .returned (cntV (2, 2, false, true)) ∧ w' = w := by
  go_enter Tryz.func46, Tryz.ntmps46
  go_wp2
  exact bodyPost_ret (v := cntV (2, 2, false, true)) (by simp [results, Tryz.results46, go_sem]) rfl ⟨rfl, rfl⟩
set_option maxRecDepth 20000 in
theorem counts_no (k : Int) (w : World) (h1 : (k == 1) = false) (h2 : (k == 2) = false) (h3 : (k == 3) = false) (h4 : (k == 4) = false) (h5 : (k == 5) = false) (h6 : (k == 6) = false) (h7 : (k == 7) = false) (h8 : (k == 8) = false) (h9 : (k == 9) = false) (h10 : (k == 10) = false) (h11 : (k == 11) = false) (h12 : (k == 12) = false) (h13 : (k == 13) = false) (h14 : (k == 14) = false) (h15 : (k == 15) = false) (h16 : (k == 16) = false) (h17 : (k == 17) = false) (h18 : (k == 18) = false) (h19 : (k == 19) = false) (h20 : (k == 20) = false) (h21 : (k == 21) = false) (h22 : (k == 22) = false) (h23 : (k == 23) = false) (h24 : (k == 24) = false) (h25 : (k == 25) = false) (h26 : (k == 26) = false) : Calls Tryz.prog 46 #[.int .i64 k] w fun e w' => e = .returned (cntV (0, 0, false, false)) ∧ w' = w := by
  go_enter Tryz.func46, Tryz.ntmps46
  go_wp2
  exact bodyPost_ret (v := cntV (0, 0, false, false)) (by simp [results, Tryz.results46, go_sem]) rfl ⟨rfl, rfl⟩
theorem counts_any (k : Int) (w : World) : Calls Tryz.prog 46 #[.int .i64 k] w fun e w' => e = .returned (cntV (cntR k)) ∧ w' = w := by
  by_cases o1 : k = 1
  · subst o1; exact counts_1 w
  by_cases o2 : k = 2
  · subst o2; exact counts_2 w
  by_cases o3 : k = 3
  · subst o3; exact counts_3 w
  by_cases o4 : k = 4
  · subst o4; exact counts_4 w
  by_cases o5 : k = 5
  · subst o5; exact counts_5 w
  by_cases o6 : k = 6
  · subst o6; exact counts_6 w
  by_cases o7 : k = 7
  · subst o7; exact counts_7 w
  by_cases o8 : k = 8
  · subst o8; exact counts_8 w
  by_cases o9 : k = 9
  · subst o9; exact counts_9 w
  by_cases o10 : k = 10
  · subst o10; exact counts_10 w
  by_cases o11 : k = 11
  · subst o11; exact counts_11 w
  by_cases o12 : k = 12
  · subst o12; exact counts_12 w
  by_cases o13 : k = 13
  · subst o13; exact counts_13 w
  by_cases o14 : k = 14
  · subst o14; exact counts_14 w
  by_cases o15 : k = 15
  · subst o15; exact counts_15 w
  by_cases o16 : k = 16
  · subst o16; exact counts_16 w
  by_cases o17 : k = 17
  · subst o17; exact counts_17 w
  by_cases o18 : k = 18
  · subst o18; exact counts_18 w
  by_cases o19 : k = 19
  · subst o19; exact counts_19 w
  by_cases o20 : k = 20
  · subst o20; exact counts_20 w
  by_cases o21 : k = 21
  · subst o21; exact counts_21 w
  by_cases o22 : k = 22
  · subst o22; exact counts_22 w
  by_cases o23 : k = 23
  · subst o23; exact counts_23 w
  by_cases o24 : k = 24
  · subst o24; exact counts_24 w
  by_cases o25 : k = 25
  · subst o25; exact counts_25 w
  by_cases o26 : k = 26
  · subst o26; exact counts_26 w
  have e : cntR k = (0, 0, false, false) := by
    unfold cntR
    repeat' split
    all_goals first | rfl | omega
  have key : ∀ n : Int, k ≠ n → (k == n) = false := fun n hn => by simpa using hn
  rw [e]
  exact counts_no k w (key 1 o1) (key 2 o2) (key 3 o3) (key 4 o4) (key 5 o5) (key 6 o6) (key 7 o7) (key 8 o8) (key 9 o9) (key 10 o10) (key 11 o11) (key 12 o12) (key 13 o13) (key 14 o14) (key 15 o15) (key 16 o16) (key 17 o17) (key 18 o18) (key 19 o19) (key 20 o20) (key 21 o21) (key 22 o22) (key 23 o23) (key 24 o24) (key 25 o25) (key 26 o26)
end Go.Proofs.YtbdkiimggggndaaGreatDoor
namespace Go.Proofs.YtbdkiimggggndaaGreatDoor
open Go.RowKit
open Go

def fitsKB (k : Int) (len i : Nat) (kk : Int) : Bool :=
  if k = 1 then kk == 2
  else if k = 2 then (if i + 1 = len then kk == 4 else kk == 3)
  else if k = 4 then frI 5 kk 12
  else if k = 8 ∨ k = 9 then (if 0 < i then kk == 4 else frI 13 kk 26)
  else if k = 10 then (if i = 2 then kk == 4 else frI 13 kk 26)
  else frI 13 kk 26
theorem fitsKB_iff (k : Int) (len i : Nat) (kk : Int) : fitsKB k len i kk = true ↔ fitsK k len i kk := by
  unfold fitsKB fitsK statK exprK frI
  repeat' split
  all_goals simp

abbrev FitsC (n : Nd) (b : Option Addr) (cap i : Nat) (kk : Int) (w : World) (v : Bool) : Prop := Calls Tryz.prog 51 #[ndv n b cap, .int .i64 i, .int .i64 kk] w fun e w' => e = .returned (.bool v) ∧ Below w.heap.size w w'
set_option maxRecDepth 20000 in
theorem fits_1 (n : Nd) (b : Option Addr) (cap i : Nat) (kk : Int) (w : World) (_hi : i < n.kids.length) (_hl : n.kids.length ≤ 9000000000000000000) (_h1 : (n.k == 1) = true) : FitsC n b cap i kk w (kk == 2) := by
  go_enter Tryz.func51, Tryz.ntmps51
  go_wp2
  go_ret
  exact ⟨rfl, ext_alloc (Below.refl _ _) _⟩
set_option maxRecDepth 20000 in
theorem fits_2y (n : Nd) (b : Option Addr) (cap i : Nat) (kk : Int) (w : World) (_hi : i < n.kids.length) (_hl : n.kids.length ≤ 9000000000000000000) (_h1 : (n.k == 1) = false) (_h2 : (n.k == 2) = true) (h : i + 1 = n.kids.length) : FitsC n b cap i kk w (kk == 4) := by
  have h' : ((i : Int) == (n.kids.length : Int) - 1) = true := by simp; omega
  have hw : wrap64 ((n.kids.length : Int) - 1) = (n.kids.length : Int) - 1 := by unfold wrap64; omega
  go_enter Tryz.func51, Tryz.ntmps51
  go_wp2
  go_ret
  exact ⟨rfl, ext_alloc (Below.refl _ _) _⟩
set_option maxRecDepth 20000 in
theorem fits_2n (n : Nd) (b : Option Addr) (cap i : Nat) (kk : Int) (w : World) (_hi : i < n.kids.length) (_hl : n.kids.length ≤ 9000000000000000000) (_h1 : (n.k == 1) = false) (_h2 : (n.k == 2) = true) (h : ¬ i + 1 = n.kids.length) : FitsC n b cap i kk w (kk == 3) := by
  have h' : ((i : Int) == (n.kids.length : Int) - 1) = false := by simp; omega
  have hw : wrap64 ((n.kids.length : Int) - 1) = (n.kids.length : Int) - 1 := by unfold wrap64; omega
  go_enter Tryz.func51, Tryz.ntmps51
  go_wp2
  go_ret
  exact ⟨rfl, ext_alloc (Below.refl _ _) _⟩
set_option maxRecDepth 20000 in
theorem fits_4 (n : Nd) (b : Option Addr) (cap i : Nat) (kk : Int) (w : World) (_hi : i < n.kids.length) (_hl : n.kids.length ≤ 9000000000000000000) (_h1 : (n.k == 1) = false) (_h2 : (n.k == 2) = false) (_h4 : (n.k == 4) = true) : FitsC n b cap i kk w (frI 5 kk 12) := by
  go_enter Tryz.func51, Tryz.ntmps51
  go_wp2_with (go_at_call 84; refine (isStat_any _ _).mono ?_; rintro e w' ⟨rfl, rfl⟩)
  go_ret
  exact ⟨rfl, ext_alloc (Below.refl _ _) _⟩
set_option maxRecDepth 20000 in
theorem fits_8y (n : Nd) (b : Option Addr) (cap i : Nat) (kk : Int) (w : World) (_hi : i < n.kids.length) (_hl : n.kids.length ≤ 9000000000000000000) (_h1 : (n.k == 1) = false) (_h2 : (n.k == 2) = false) (_h4 : (n.k == 4) = false) (h8 : n.k = 8 ∨ n.k = 9) (h : (0 : Int) < (i : Int)) : FitsC n b cap i kk w (kk == 4) := by
  rcases h8 with h8 | h8
  · have h8' : (n.k == 8) = true := by simpa using h8
    go_enter Tryz.func51, Tryz.ntmps51
    go_wp2
    go_ret
    exact ⟨rfl, ext_alloc (Below.refl _ _) _⟩
  · have h8' : (n.k == 8) = false := by rw [h8]; rfl
    have h9' : (n.k == 9) = true := by simpa using h8
    go_enter Tryz.func51, Tryz.ntmps51
    go_wp2
    go_ret
    exact ⟨rfl, ext_alloc (Below.refl _ _) _⟩
set_option maxRecDepth 20000 in
theorem fits_8n (n : Nd) (b : Option Addr) (cap i : Nat) (kk : Int) (w : World) (_hi : i < n.kids.length) (_hl : n.kids.length ≤ 9000000000000000000) (_h1 : (n.k == 1) = false) (_h2 : (n.k == 2) = false) (_h4 : (n.k == 4) = false) (h8 : n.k = 8 ∨ n.k = 9) (h : ¬ (0 : Int) < (i : Int)) : FitsC n b cap i kk w (frI 13 kk 26) := by
  rcases h8 with h8 | h8
  · have h8' : (n.k == 8) = true := by simpa using h8
    go_enter Tryz.func51, Tryz.ntmps51
    go_wp2_with (go_at_call 85; refine (isExpr_any _ _).mono ?_; rintro e w' ⟨rfl, rfl⟩)
    go_ret
    exact ⟨rfl, ext_alloc (Below.refl _ _) _⟩
  · have h8' : (n.k == 8) = false := by rw [h8]; rfl
    have h9' : (n.k == 9) = true := by simpa using h8
    go_enter Tryz.func51, Tryz.ntmps51
    go_wp2_with (go_at_call 85; refine (isExpr_any _ _).mono ?_; rintro e w' ⟨rfl, rfl⟩)
    go_ret
    exact ⟨rfl, ext_alloc (Below.refl _ _) _⟩
set_option maxRecDepth 20000 in
theorem fits_10y (n : Nd) (b : Option Addr) (cap i : Nat) (kk : Int) (w : World) (_hi : i < n.kids.length) (_hl : n.kids.length ≤ 9000000000000000000) (_h1 : (n.k == 1) = false) (_h2 : (n.k == 2) = false) (_h4 : (n.k == 4) = false) (_h8 : (n.k == 8) = false) (_h9 : (n.k == 9) = false) (_h10 : (n.k == 10) = true) (h : ((i : Int) == 2) = true) : FitsC n b cap i kk w (kk == 4) := by
  go_enter Tryz.func51, Tryz.ntmps51
  go_wp2
  go_ret
  exact ⟨rfl, ext_alloc (Below.refl _ _) _⟩
set_option maxRecDepth 20000 in
theorem fits_10n (n : Nd) (b : Option Addr) (cap i : Nat) (kk : Int) (w : World) (_hi : i < n.kids.length) (_hl : n.kids.length ≤ 9000000000000000000) (_h1 : (n.k == 1) = false) (_h2 : (n.k == 2) = false) (_h4 : (n.k == 4) = false) (_h8 : (n.k == 8) = false) (_h9 : (n.k == 9) = false) (_h10 : (n.k == 10) = true) (h : ((i : Int) == 2) = false) : FitsC n b cap i kk w (frI 13 kk 26) := by
  go_enter Tryz.func51, Tryz.ntmps51
  go_wp2_with (go_at_call 85; refine (isExpr_any _ _).mono ?_; rintro e w' ⟨rfl, rfl⟩)
  go_ret
  exact ⟨rfl, ext_alloc (Below.refl _ _) _⟩
set_option maxRecDepth 20000 in
theorem fits_no (n : Nd) (b : Option Addr) (cap i : Nat) (kk : Int) (w : World) (_hi : i < n.kids.length) (_hl : n.kids.length ≤ 9000000000000000000) (_h1 : (n.k == 1) = false) (_h2 : (n.k == 2) = false) (_h4 : (n.k == 4) = false) (_h8 : (n.k == 8) = false) (_h9 : (n.k == 9) = false) (_h10 : (n.k == 10) = false) : FitsC n b cap i kk w (frI 13 kk 26) := by
  go_enter Tryz.func51, Tryz.ntmps51
  go_wp2_with (go_at_call 85; refine (isExpr_any _ _).mono ?_; rintro e w' ⟨rfl, rfl⟩)
  go_ret
  exact ⟨rfl, ext_alloc (Below.refl _ _) _⟩
theorem fitsk_any (n : Nd) (b : Option Addr) (cap i : Nat) (kk : Int) (w : World) (hi : i < n.kids.length) (hl : n.kids.length ≤ 9000000000000000000) : FitsC n b cap i kk w (fitsKB n.k n.kids.length i kk) := by
  have key : ∀ {m : Int}, ¬ n.k = m → (n.k == m) = false := fun {m} h => by simpa using h
  have yes : ∀ {m : Int}, n.k = m → (n.k == m) = true := fun {m} h => by simpa using h
  unfold fitsKB
  split
  · rename_i h1; exact fits_1 n b cap i kk w hi hl (yes h1)
  rename_i h1
  split
  · rename_i h2
    split
    · rename_i h; exact fits_2y n b cap i kk w hi hl (key h1) (yes h2) h
    · rename_i h; exact fits_2n n b cap i kk w hi hl (key h1) (yes h2) h
  rename_i h2
  split
  · rename_i h4; exact fits_4 n b cap i kk w hi hl (key h1) (key h2) (yes h4)
  rename_i h4
  split
  · rename_i h8
    split
    · rename_i h; exact fits_8y n b cap i kk w hi hl (key h1) (key h2) (key h4) h8 (by omega)
    · rename_i h; exact fits_8n n b cap i kk w hi hl (key h1) (key h2) (key h4) h8 (by omega)
  rename_i h8
  split
  · rename_i h10
    split
    · rename_i h; exact fits_10y n b cap i kk w hi hl (key h1) (key h2) (key h4) (key (by omega)) (key (by omega)) (yes h10) (by simp [h])
    · rename_i h; exact fits_10n n b cap i kk w hi hl (key h1) (key h2) (key h4) (key (by omega)) (key (by omega)) (yes h10) (by simp; omega)
  · rename_i h10; exact fits_no n b cap i kk w hi hl (key h1) (key h2) (key h4) (key (by omega)) (key (by omega)) (key h10)
end Go.Proofs.YtbdkiimggggndaaGreatDoor
namespace Go.Proofs.YtbdkiimggggndaaGreatDoor
open Go.RowKit
open Go

/-- The kind of what stands first. -/
def baseK (c : Bool) : Nd → Int
  | ⟨k, _, _, kids⟩ => if k = 20 ∨ (c = true ∧ k = 21) then go k kids else k
where go (k : Int) : List Nd → Int
  | [] => k
  | x :: _ => baseK c x
theorem base_chain0 (x : Nd) : baseK false x = 18 ↔ chainC x = some 0 := by
  refine nd_ind (m := fun x => baseK false x = 18 ↔ chainC x = some 0) (fun k t n kids ih => ?_) x
  rw [baseK, chainC]
  by_cases h18 : k = 18
  · subst h18; simp
  rw [if_neg h18]
  by_cases h20 : k = 20
  · subst h20
    simp only [true_or, if_true]
    cases kids with
    | nil => simp [baseK.go, chainC.go]
    | cons y l => rw [baseK.go, chainC.go]; exact ih y (by simp)
  · rw [if_neg (by simp [h20]), if_neg h20]
    constructor
    · intro h; exact absurd h h18
    · intro h
      split at h
      · cases e : chainC.go kids <;> rw [e] at h <;> simp at h
      · cases h
theorem base_chain1 (x : Nd) : baseK true x = 18 ↔ (chainC x).isSome = true := by
  refine nd_ind (m := fun x => baseK true x = 18 ↔ (chainC x).isSome = true) (fun k t n kids ih => ?_) x
  rw [baseK, chainC]
  by_cases h18 : k = 18
  · subst h18; simp
  rw [if_neg h18]
  by_cases h20 : k = 20
  · subst h20
    simp only [true_or, if_true]
    cases kids with
    | nil => simp [baseK.go, chainC.go]
    | cons y l => rw [baseK.go, chainC.go]; exact ih y (by simp)
  · rw [if_neg h20]
    by_cases h21 : k = 21
    · subst h21
      simp only [true_and, or_true, if_true]
      cases kids with
      | nil => simp [baseK.go, chainC.go]
      | cons y l => rw [baseK.go, chainC.go]; simpa using ih y (by simp)
    · rw [if_neg (by simp [h20, h21]), if_neg h21]
      simp [h18]

abbrev BaseC (n : Nd) : Prop := ∀ (c : Bool) (S : Nat → Prop) (b : Option Addr) (cap : Nat) (w : World), NdV S w n (ndv n b cap) → Calls Tryz.prog 50 #[ndv n b cap, .bool c] w fun e w' => (∃ m b' cap', e = .returned (ndv m b' cap') ∧ m.k = baseK c n) ∧ Below w.heap.size w w'
set_option maxRecDepth 20000 in
set_option maxHeartbeats 1000000 in
theorem base_stop (n : Nd) (c : Bool) (b : Option Addr) (cap : Nat) (w : World) (h : n.kids = [] ∨ ¬ (n.k = 20 ∨ (c = true ∧ n.k = 21))) : Calls Tryz.prog 50 #[ndv n b cap, .bool c] w fun e w' => e = .returned (ndv n b cap) ∧ Below w.heap.size w w' := by
  have hb0 := ext_alloc (ext_alloc (Below.refl w.heap.size w) (nbx n b cap)) (nbx n b cap)
  rcases h with h | h
  · have hl : ¬ (0 : Int) < (n.kids.length : Int) := by rw [h]; simp
    clear h
    go_enter Tryz.func50, Tryz.ntmps50
    go_wp2
    exact bodyPost_ret (v := ndv n b cap) (by simp [results, Tryz.results50, go_sem]) rfl ⟨rfl, hb0⟩
  · have h20 : (n.k == 20) = false := by simp; exact fun e => h (.inl e)
    by_cases hl : (0 : Int) < (n.kids.length : Int)
    · cases c with
      | false =>
        clear h
        go_enter Tryz.func50, Tryz.ntmps50
        go_wp2
        exact bodyPost_ret (v := ndv n b cap) (by simp [results, Tryz.results50, go_sem]) rfl ⟨rfl, hb0⟩
      | true =>
        have h21 : (n.k == 21) = false := by simp; exact fun e => h (.inr ⟨rfl, e⟩)
        clear h
        go_enter Tryz.func50, Tryz.ntmps50
        go_wp2
        exact bodyPost_ret (v := ndv n b cap) (by simp [results, Tryz.results50, go_sem]) rfl ⟨rfl, hb0⟩
    · clear h
      go_enter Tryz.func50, Tryz.ntmps50
      go_wp2
      exact bodyPost_ret (v := ndv n b cap) (by simp [results, Tryz.results50, go_sem]) rfl ⟨rfl, hb0⟩

set_option maxRecDepth 20000 in
set_option maxHeartbeats 1000000 in
theorem base_step (k0 : Int) (t0 : List UInt8) (n0 : Int) (ks : List Nd) (ih : ∀ y ∈ ks, BaseC y) : BaseC ⟨k0, t0, n0, ks⟩ := by
  intro c S b cap w hn
  by_cases hc : k0 = 20 ∨ (c = true ∧ k0 = 21)
  · cases ks with
    | nil => exact (base_stop ⟨k0, t0, n0, []⟩ c b cap w (.inl rfl)).mono fun e w' ⟨he, hb⟩ => ⟨⟨_, _, _, he, by rw [baseK, if_pos hc]; rfl⟩, hb⟩
    | cons y l =>
      have hbk : baseK c ⟨k0, t0, n0, y :: l⟩ = baseK c y := by rw [baseK, if_pos hc]; rfl
      rw [hbk]
      obtain ⟨hcap, hkids⟩ := ndv_parts hn
      rcases hkids with h | ⟨g, off, rfl, hSg, hkd⟩
      · cases h
      obtain ⟨b', cap', v0, v1, v2, v3, hyV⟩ := ndAt_val (hkd 0 y rfl)
      simp only [Nat.zero_mul, Nat.add_zero] at v0 v1 v2 v3
      have hb0 := ext_alloc (ext_alloc (Below.refl w.heap.size w) (nbx ⟨k0, t0, n0, y :: l⟩ (some ⟨g, off, none⟩) cap)) (.cells #[.int .i64 0, .string ⟨#[]⟩, .int .i64 0, .slice none 0 0] 24)
      have hcall := fun u (hb : Below w.heap.size w u) => ih y (by simp) c S b' cap' u (hyV.below hb)
      obtain ⟨L, hL⟩ : ∃ L, (y :: l).length = L := ⟨_, rfl⟩
      have hL0 : (0 : Int) < (L : Int) := by rw [← hL]; simp
      dsimp only [ndv]
      dsimp only [nbx] at hb0
      rw [hL] at hb0 ⊢
      have hg : g < w.heap.size := World.block_lt_of_cell? _ _ v0
      clear hL hn hkd ih hyV hbk
      have gz : ((w.alloc (.cells #[.int .i64 k0, sk t0, .int .i64 n0, .slice (some ⟨g, off, none⟩) L cap] 24)).alloc (.cells #[.int .i64 0, .string ⟨#[]⟩, .int .i64 0, .slice none 0 0] 24)).heap[w.heap.size + 1]? = some (nbx ⟨0, [], 0, []⟩ none 0) := by
        have := alloc_new (w.alloc (.cells #[.int .i64 k0, sk t0, .int .i64 n0, .slice (some ⟨g, off, none⟩) L cap] 24)) (nbx ⟨0, [], 0, []⟩ none 0)
        rw [World.size_alloc] at this
        exact this
      rcases hc with rfl | ⟨rfl, rfl⟩
      · go_enter Tryz.func50, Tryz.ntmps50
        go_wp2_with (go_at_call 50; refine (hcall _ hb0).mono ?_; rintro e w1 ⟨⟨m, mb, mc, rfl, hm⟩, hb1⟩; replace hm : Hid _ := hm; obtain ⟨z0, z1, z2, z3, y0, y1, y2, y3⟩ := in4 (block_below hb1 gz))
        have hB := ((((ext_trans hb0 hb1).setCell (p := ⟨w.heap.size + 1, 0, none⟩) (Nat.le_succ _) (.int .i64 m.k)).setCell (p := ⟨w.heap.size + 1, 1, none⟩) (Nat.le_succ _) (sk m.t)).setCell (p := ⟨w.heap.size + 1, 2, none⟩) (Nat.le_succ _) (.int .i64 m.n)).setCell (p := ⟨w.heap.size + 1, 3, none⟩) (Nat.le_succ _) (.slice mb m.kids.length mc)
        exact bodyPost_ret (v := ndv m mb mc) (by simp [results, Tryz.results50, go_sem, z0, z1, z2, z3]) rfl ⟨⟨m, mb, mc, rfl, hm.out⟩, hB⟩
      · go_enter Tryz.func50, Tryz.ntmps50
        go_wp2_with (go_at_call 50; refine (hcall _ hb0).mono ?_; rintro e w1 ⟨⟨m, mb, mc, rfl, hm⟩, hb1⟩; replace hm : Hid _ := hm; obtain ⟨z0, z1, z2, z3, y0, y1, y2, y3⟩ := in4 (block_below hb1 gz))
        have hB := ((((ext_trans hb0 hb1).setCell (p := ⟨w.heap.size + 1, 0, none⟩) (Nat.le_succ _) (.int .i64 m.k)).setCell (p := ⟨w.heap.size + 1, 1, none⟩) (Nat.le_succ _) (sk m.t)).setCell (p := ⟨w.heap.size + 1, 2, none⟩) (Nat.le_succ _) (.int .i64 m.n)).setCell (p := ⟨w.heap.size + 1, 3, none⟩) (Nat.le_succ _) (.slice mb m.kids.length mc)
        exact bodyPost_ret (v := ndv m mb mc) (by simp [results, Tryz.results50, go_sem, z0, z1, z2, z3]) rfl ⟨⟨m, mb, mc, rfl, hm.out⟩, hB⟩
  · exact (base_stop ⟨k0, t0, n0, ks⟩ c b cap w (.inr hc)).mono fun e w' ⟨he, hb⟩ => ⟨⟨_, _, _, he, by rw [baseK, if_neg hc]⟩, hb⟩
theorem base_any (n : Nd) : BaseC n := nd_ind base_step n
end Go.Proofs.YtbdkiimggggndaaGreatDoor
