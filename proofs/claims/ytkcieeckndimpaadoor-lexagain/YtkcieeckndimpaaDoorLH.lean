/- Walks of the document's own reading of tokens: bytes, rows, numerals, quotes. -/
import Derived.Test.YtkcieeckndimpaaDoorLG
namespace Go.Proofs.YtkcieeckndimpaaDoor
open Go.RowKit
open Go

set_option maxRecDepth 20000 in
set_option maxHeartbeats 1000000 in
theorem digit_any (x : UInt8) (w : World) : Calls Tryd.prog 54 #[.int .u8 (x.toNat : Int)] w fun e w' => e = .returned (.bool (digB x)) ∧ w' = w := by
  by_cases h1 : (48 : Int) ≤ (x.toNat : Int) <;> by_cases h2 : (x.toNat : Int) ≤ 57
  all_goals
    go_enter Tryd.func54, Tryd.ntmps54
    go_wp2
    go_ret
    exact ⟨ret_bool (by simp [digB]; omega), rfl⟩

set_option maxRecDepth 20000 in
set_option maxHeartbeats 1000000 in
theorem letter_any (x : UInt8) (w : World) : Calls Tryd.prog 53 #[.int .u8 (x.toNat : Int)] w fun e w' => e = .returned (.bool (letB x)) ∧ w' = w := by
  by_cases h1 : x.toNat = 95
  · have h1' : ((x.toNat : Int) == 95) = true := by simp [h1]
    go_enter Tryd.func53, Tryd.ntmps53
    go_wp2
    go_ret
    exact ⟨ret_bool (by simp [letB, h1]), rfl⟩
  have h1' : ((x.toNat : Int) == 95) = false := by simp; omega
  by_cases h2 : (97 : Int) ≤ (x.toNat : Int) <;> by_cases h3 : (x.toNat : Int) ≤ 122 <;> by_cases h4 : (65 : Int) ≤ (x.toNat : Int) <;> by_cases h5 : (x.toNat : Int) ≤ 90
  all_goals first
    | (exfalso; omega)
    | (go_enter Tryd.func53, Tryd.ntmps53
       go_wp2
       go_ret
       exact ⟨ret_bool (by simp [letB, h1]; omega), rfl⟩)

/-- Whether a byte goes on, as the document asks it. -/
theorem drop_get (l : List UInt8) (a n : Nat) : (l.drop a)[n]? = l[a + n]? := by simp

set_option maxRecDepth 20000 in
set_option maxHeartbeats 2000000 in
theorem row_any (s : ByteArray) (hs : s.size ≤ 4000) (a : Nat) (ha : a ≤ s.size) (w : World) :
    Calls Tryd.prog 52 #[.string s, .int .i64 a] w fun e w' => e = .returned (.int .i64 (runN rowB (s.data.toList.drop a) : Nat)) ∧ w' = w := by
  obtain ⟨V, hV⟩ : ∃ V, runN rowB (s.data.toList.drop a) = V := ⟨_, rfl⟩
  rw [hV]
  replace hV : Hid _ := hV
  go_enter Tryd.func52, Tryd.ntmps52
  go_wp2
  go_loop [5] (fun i => ∃ k : Nat, a + k ≤ s.size ∧ i = .int .i64 k ∧ ∀ i d, i < k → (s.data.toList.drop a)[i]? = some d → rowB d = true) (fun i => s.size - (intOf i).toNat)
  case atStart => exact ⟨0, by omega, rfl, fun i d h => by omega⟩
  case round =>
    obtain ⟨k, hk, rfl, hno⟩ := hrel
    by_cases hlt : a + k < s.size
    · have hc : (s.data.toList.drop a)[k]? = some s[a + k] := by
        rw [drop_get]; exact byte_at hlt
      have hT := take_run rowB (s.data.toList.drop a) k s[a + k] hc hno
      rw [hV.out] at hT
      have hL := letter_any s[a + k] w
      have hD := digit_any s[a + k] w
      have hr : rowB s[a + k] = (letB s[a + k] || digB s[a + k]) := rfl
      rw [hr] at hT
      have hlt' : (a : Int) + (k : Int) < (s.size : Int) := by omega
      clear hc
      replace hT : Hid _ := hT
      replace hno : Hid _ := hno
      cases h1 : letB s[a + k]
      · cases h2 : digB s[a + k]
        · rw [h1] at hL
          rw [h2] at hD
          have hp : Hid (V = k) := hT.out.2 (by rw [h1, h2]; rfl)
          clear hT h1 h2
          go_wp2_with (first | (go_at_call 53; refine hL.mono ?_; rintro e w' ⟨rfl, rfl⟩) | (go_at_call 54; refine hD.mono ?_; rintro e w' ⟨rfl, rfl⟩))
          go_ret
          exact ⟨ret_int (by rw [hp.out]), rfl⟩
        · rw [h1] at hL
          rw [h2] at hD
          have hp : Hid (∀ i d, i < k + 1 → (s.data.toList.drop a)[i]? = some d → rowB d = true) := hT.out.1 (by rw [h1, h2]; rfl)
          clear hT h1 h2
          go_wp2_with (first | (go_at_call 53; refine hL.mono ?_; rintro e w' ⟨rfl, rfl⟩) | (go_at_call 54; refine hD.mono ?_; rintro e w' ⟨rfl, rfl⟩))
          go_round
          case rel => exact ⟨k + 1, by omega, by go_num, hp.out⟩
          case measure => simp [intOf]; omega
      · rw [h1] at hL
        have hp : Hid (∀ i d, i < k + 1 → (s.data.toList.drop a)[i]? = some d → rowB d = true) := hT.out.1 (by rw [h1]; rfl)
        clear hT h1
        go_wp2_with (first | (go_at_call 53; refine hL.mono ?_; rintro e w' ⟨rfl, rfl⟩) | (go_at_call 54; refine hD.mono ?_; rintro e w' ⟨rfl, rfl⟩))
        go_round
        case rel => exact ⟨k + 1, by omega, by go_num, hp.out⟩
        case measure => simp [intOf]; omega
    · have hlt' : ¬ (a : Int) + (k : Int) < (s.size : Int) := by omega
      have hp : Hid (V = k) := by
        show V = k
        rw [← hV.out]
        exact runN_eq rowB _ k (by simp; omega) hno (fun c hc => by rw [drop_get, List.getElem?_eq_none (by simp; omega)] at hc; cases hc)
      clear hno
      go_wp2_with fail
      go_ret
      exact ⟨ret_int (by rw [hp.out]), rfl⟩

theorem more_eq : ∀ x y : List UInt8, (!Op.bytesLess x y && !(x == y)) = Op.bytesLess y x
  | [], [] => by simp [Op.bytesLess]
  | [], _ :: _ => by simp [Op.bytesLess]
  | _ :: _, [] => by simp [Op.bytesLess]
  | a :: x, b :: y => by
    have ih := more_eq x y
    rw [Op.bytesLess, Op.bytesLess]
    by_cases h : a = b
    · subst h
      simp only [beq_self_eq_true, Bool.true_and, UInt8.lt_irrefl, decide_false, Bool.false_or, List.cons_beq_cons]
      exact ih
    · have h' : ¬ b = a := fun e => h e.symm
      have e1 : (a == b) = false := by simpa using h
      have e2 : (b == a) = false := by simpa using h'
      have hn : a.toNat ≠ b.toNat := fun e => h (UInt8.toNat_inj.1 e)
      simp only [e1, e2, Bool.false_and, Bool.or_false, List.cons_beq_cons, Bool.not_false, Bool.and_true]
      rw [Bool.eq_iff_iff]
      simp [UInt8.lt_iff_toNat_lt]
      omega

set_option maxRecDepth 20000 in
set_option maxHeartbeats 2000000 in
theorem numeral_any (s : ByteArray) (hs : s.size ≤ 4000) (h0 : 0 < s.size) (w : World) :
    Calls Tryd.prog 55 #[.string s] w fun e w' => e = .returned (.int .i64 (numE s.data.toList)) ∧ w' = w := by
  obtain ⟨V, hV⟩ : ∃ V, numE s.data.toList = V := ⟨_, rfl⟩
  rw [hV]
  replace hV : Hid _ := hV
  go_enter Tryd.func55, Tryd.ntmps55
  go_wp2
  go_loop [3] (fun i => ∃ k : Nat, k ≤ s.size ∧ i = .int .i64 k ∧ ∀ i d, i < k → s.data.toList[i]? = some d → digB d = true) (fun i => s.size - (intOf i).toNat)
  case atStart => exact ⟨0, by omega, rfl, fun i d h => by omega⟩
  case round =>
    obtain ⟨k, hk, rfl, hno⟩ := hrel
    by_cases hlt : k < s.size
    · have hc : s.data.toList[k]? = some s[k] := byte_at hlt
      have hT := take_run digB s.data.toList k s[k] hc hno
      have hD := digit_any s[k] w
      have hlt' : (k : Int) < (s.size : Int) := by omega
      clear hc
      replace hT : Hid _ := hT
      replace hno : Hid _ := hno
      cases h2 : digB s[k]
      · rw [h2] at hD
        have hp : Hid (V = 2) := by
          show V = 2
          rw [← hV.out]
          have := hT.out.2 h2
          unfold numE
          rw [all_run, if_pos (by simp only [decide_eq_false_iff_not]; rw [this]; simp; omega)]
        clear hT h2
        go_wp2_with (go_at_call 54; refine hD.mono ?_; rintro e w' ⟨rfl, rfl⟩)
        go_ret
        exact ⟨ret_int (by rw [hp.out]), rfl⟩
      · rw [h2] at hD
        have hp : Hid (∀ i d, i < k + 1 → s.data.toList[i]? = some d → digB d = true) := hT.out.1 h2
        clear hT h2
        go_wp2_with (go_at_call 54; refine hD.mono ?_; rintro e w' ⟨rfl, rfl⟩)
        go_round
        case rel => exact ⟨k + 1, by omega, by go_num, hp.out⟩
        case measure => simp [intOf]; omega
    · obtain rfl : k = s.size := by omega
      have hall : s.data.toList.all digB = true := by
        rw [List.all_eq_true]
        intro d hd
        obtain ⟨i, hi, hd⟩ := List.getElem_of_mem hd
        exact hno i d (by simpa using hi) (by rw [List.getElem?_eq_getElem hi, hd])
      obtain ⟨c, r, hl, hc, _⟩ := list_cons s h0
      have hlen : s.data.toList.length = s.size := by simp
      have hhead : s.data.toList.head? = some s[0] := by rw [hl, hc]; rfl
      have hbig := num_big s.data.toList hall
      rw [hlen, hhead] at hbig
      have hnum : V = if 1 < s.size ∧ s[0] = 48 then 2 else if 9223372036854775807 < numV s.data.toList then 6 else 0 := by
        rw [← hV.out]
        unfold numE
        rw [hall, if_neg (by simp), hlen, hhead]
        simp
      clear hno hall hl hc hlen hhead hV
      have hloop : ¬ (s.size : Int) < (s.size : Int) := by omega
      have h0' : (0 : Int) < (s.size : Int) := by omega
      by_cases k1 : 1 < s.size
      · have k1' : (1 : Int) < (s.size : Int) := by omega
        by_cases k2 : s[0] = 48
        · have k2' : ((s[0].toNat : Int) == 48) = true := by rw [k2]; rfl
          have hp : Hid (V = 2) := hnum.trans (if_pos ⟨k1, k2⟩)
          clear hnum hbig k2
          go_wp2
          go_ret
          exact ⟨ret_int (by rw [hp.out]), rfl⟩
        · have k2' : ((s[0].toNat : Int) == 48) = false := by
            have : s[0].toNat ≠ 48 := fun e => k2 (UInt8.toNat_inj.1 e)
            simp; omega
          have hb := hbig (fun h => k2 (by simpa using h.2))
          rw [if_neg (fun h => k2 h.2)] at hnum
          clear hbig k2
          by_cases k3 : 19 < s.size
          · have k3' : (19 : Int) < (s.size : Int) := by omega
            have hp : Hid (V = 6) := hnum.trans (if_pos (hb.2 (.inl k3)))
            clear hnum hb
            go_wp2
            go_ret
            exact ⟨ret_int (by rw [hp.out]), rfl⟩
          · have k3' : ¬ (19 : Int) < (s.size : Int) := by omega
            by_cases k4 : s.size = 19
            · have k4' : ((s.size : Int) == 19) = true := by simp [k4]
              have hm := more_eq s.data.toList mostL
              cases hl : Op.bytesLess mostL s.data.toList
              · have hp : Hid (V = 0) := hnum.trans (if_neg (fun h => by have := hb.1 h; rw [hl] at this; simp at this; omega))
                rw [hl] at hm
                have hm' : (!Op.bytesLess s.toList [57, 50, 50, 51, 51, 55, 50, 48, 51, 54, 56, 53, 52, 55, 55, 53, 56, 48, 55] && !(s.toList == [57, 50, 50, 51, 51, 55, 50, 48, 51, 54, 56, 53, 52, 55, 55, 53, 56, 48, 55])) = false := by
                  rw [ByteArray.toList_eq]
                  exact hm
                clear hnum hb hl hm
                go_wp2
                go_ret
                exact ⟨ret_int (by rw [hp.out]), rfl⟩
              · have hp : Hid (V = 6) := hnum.trans (if_pos (hb.2 (.inr ⟨k4, hl⟩)))
                rw [hl] at hm
                have hm' : (!Op.bytesLess s.toList [57, 50, 50, 51, 51, 55, 50, 48, 51, 54, 56, 53, 52, 55, 55, 53, 56, 48, 55] && !(s.toList == [57, 50, 50, 51, 51, 55, 50, 48, 51, 54, 56, 53, 52, 55, 55, 53, 56, 48, 55])) = true := by
                  rw [ByteArray.toList_eq]
                  exact hm
                clear hnum hb hl hm
                go_wp2
                go_ret
                exact ⟨ret_int (by rw [hp.out]), rfl⟩
            · have k4' : ((s.size : Int) == 19) = false := by simp; omega
              have hp : Hid (V = 0) := hnum.trans (if_neg (fun h => by have := hb.1 h; omega))
              clear hnum hb k4
              go_wp2
              go_ret
              exact ⟨ret_int (by rw [hp.out]), rfl⟩
      · have k1' : ¬ (1 : Int) < (s.size : Int) := by omega
        have k3' : ¬ (19 : Int) < (s.size : Int) := by omega
        have k4' : ((s.size : Int) == 19) = false := by simp; omega
        have hb := hbig (fun h => k1 h.1)
        rw [if_neg (fun h => k1 h.1)] at hnum
        have hp : Hid (V = 0) := hnum.trans (if_neg (fun h => by have := hb.1 h; omega))
        clear hnum hb hbig
        go_wp2
        go_ret
        exact ⟨ret_int (by rw [hp.out]), rfl⟩
end Go.Proofs.YtkcieeckndimpaaDoor
