/- Walks of the document's own reading of tokens: bytes, rows, numerals, quotes. Walks of the document's own reading of tokens: a text between quotes, a sign. Walks of the document's own reading of tokens: one token. Walks of the document's own reading of tokens: all of a text. -/
import Derived.Test.YtnnppenlfocgiaaGreatDoorK10
import Derived.Deep.QuietTactic
import Derived.BigQuiet
namespace Go.Proofs.YtnnppenlfocgiaaGreatDoor
open Go.RowKit
open Go

set_option maxRecDepth 20000 in
set_option maxHeartbeats 1000000 in
theorem digit_any (x : UInt8) (w : World) : Calls Tryz.prog 48 #[.int .u8 (x.toNat : Int)] w fun e w' => e = .returned (.bool (digB x)) ∧ w' = w := by
  by_cases h1 : (48 : Int) ≤ (x.toNat : Int) <;> by_cases h2 : (x.toNat : Int) ≤ 57
  all_goals
    go_enter Tryz.func48, Tryz.ntmps48
    go_wp2
    go_ret
    exact ⟨ret_bool (by simp [digB]; omega), rfl⟩

set_option maxRecDepth 20000 in
set_option maxHeartbeats 1000000 in
theorem letter_any (x : UInt8) (w : World) : Calls Tryz.prog 47 #[.int .u8 (x.toNat : Int)] w fun e w' => e = .returned (.bool (letB x)) ∧ w' = w := by
  by_cases h1 : x.toNat = 95
  · have h1' : ((x.toNat : Int) == 95) = true := by simp [h1]
    go_enter Tryz.func47, Tryz.ntmps47
    go_wp2
    go_ret
    exact ⟨ret_bool (by simp [letB, h1]), rfl⟩
  have h1' : ((x.toNat : Int) == 95) = false := by simp; omega
  by_cases h2 : (97 : Int) ≤ (x.toNat : Int) <;> by_cases h3 : (x.toNat : Int) ≤ 122 <;> by_cases h4 : (65 : Int) ≤ (x.toNat : Int) <;> by_cases h5 : (x.toNat : Int) ≤ 90
  all_goals first
    | (exfalso; omega)
    | (go_enter Tryz.func47, Tryz.ntmps47
       go_wp2
       go_ret
       exact ⟨ret_bool (by simp [letB, h1]; omega), rfl⟩)

/-- Whether a byte goes on, as the document asks it. -/
theorem drop_get (l : List UInt8) (a n : Nat) : (l.drop a)[n]? = l[a + n]? := by simp

set_option maxRecDepth 20000 in
set_option maxHeartbeats 2000000 in
theorem row_any (s : ByteArray) (hs : s.size ≤ 4000) (a : Nat) (ha : a ≤ s.size) (w : World) :
    Calls Tryz.prog 46 #[.string s, .int .i64 a] w fun e w' => e = .returned (.int .i64 (runN rowB (s.data.toList.drop a) : Nat)) ∧ w' = w := by
  obtain ⟨V, hV⟩ : ∃ V, runN rowB (s.data.toList.drop a) = V := ⟨_, rfl⟩
  rw [hV]
  replace hV : Hid _ := hV
  go_enter Tryz.func46, Tryz.ntmps46
  go_wp2
  go_loop [5] (fun i => ∃ k : Nat, a + k ≤ s.size ∧ i = .int .i64 k ∧ ∀ i d, i < k → (s.data.toList.drop a)[i]? = some d → rowB d = true) (fun i => s.size - (intOf i).toNat)
  case atStart => exact ⟨0, by omega, rfl, fun i d h => by omega⟩
  case round =>
    obtain ⟨k, hk, rfl, hno⟩ := hrel
    by_cases hlt : a + k < s.size
    · have hc : (s.data.toList.drop a)[k]? = some s[a + k] := by
        rw [drop_get]; exact byte_at hlt
      have hT := take_run rowB (s.data.toList.drop a) k s[a + k] hc hno
      rw [hV.out] at hT
      have hL := letter_any s[a + k] w
      have hD := digit_any s[a + k] w
      have hr : rowB s[a + k] = (letB s[a + k] || digB s[a + k]) := rfl
      rw [hr] at hT
      have hlt' : (a : Int) + (k : Int) < (s.size : Int) := by omega
      clear hc
      replace hT : Hid _ := hT
      replace hno : Hid _ := hno
      cases h1 : letB s[a + k]
      · cases h2 : digB s[a + k]
        · rw [h1] at hL
          rw [h2] at hD
          have hp : Hid (V = k) := hT.out.2 (by rw [h1, h2]; rfl)
          clear hT h1 h2
          go_wp2_with (first | (go_at_call 47; refine hL.mono ?_; rintro e w' ⟨rfl, rfl⟩) | (go_at_call 48; refine hD.mono ?_; rintro e w' ⟨rfl, rfl⟩))
          go_ret
          exact ⟨ret_int (by rw [hp.out]), rfl⟩
        · rw [h1] at hL
          rw [h2] at hD
          have hp : Hid (∀ i d, i < k + 1 → (s.data.toList.drop a)[i]? = some d → rowB d = true) := hT.out.1 (by rw [h1, h2]; rfl)
          clear hT h1 h2
          go_wp2_with (first | (go_at_call 47; refine hL.mono ?_; rintro e w' ⟨rfl, rfl⟩) | (go_at_call 48; refine hD.mono ?_; rintro e w' ⟨rfl, rfl⟩))
          go_round
          case rel => exact ⟨k + 1, by omega, by go_num, hp.out⟩
          case measure => simp [intOf]; omega
      · rw [h1] at hL
        have hp : Hid (∀ i d, i < k + 1 → (s.data.toList.drop a)[i]? = some d → rowB d = true) := hT.out.1 (by rw [h1]; rfl)
        clear hT h1
        go_wp2_with (first | (go_at_call 47; refine hL.mono ?_; rintro e w' ⟨rfl, rfl⟩) | (go_at_call 48; refine hD.mono ?_; rintro e w' ⟨rfl, rfl⟩))
        go_round
        case rel => exact ⟨k + 1, by omega, by go_num, hp.out⟩
        case measure => simp [intOf]; omega
    · have hlt' : ¬ (a : Int) + (k : Int) < (s.size : Int) := by omega
      have hp : Hid (V = k) := by
        show V = k
        rw [← hV.out]
        exact runN_eq rowB _ k (by simp; omega) hno (fun c hc => by rw [drop_get, List.getElem?_eq_none (by simp; omega)] at hc; cases hc)
      clear hno
      go_wp2_with fail
      go_ret
      exact ⟨ret_int (by rw [hp.out]), rfl⟩

theorem more_eq : ∀ x y : List UInt8, (!Op.bytesLess x y && !(x == y)) = Op.bytesLess y x
  | [], [] => by simp [Op.bytesLess]
  | [], _ :: _ => by simp [Op.bytesLess]
  | _ :: _, [] => by simp [Op.bytesLess]
  | a :: x, b :: y => by
    have ih := more_eq x y
    rw [Op.bytesLess, Op.bytesLess]
    by_cases h : a = b
    · subst h
      simp only [beq_self_eq_true, Bool.true_and, UInt8.lt_irrefl, decide_false, Bool.false_or, List.cons_beq_cons]
      exact ih
    · have h' : ¬ b = a := fun e => h e.symm
      have e1 : (a == b) = false := by simpa using h
      have e2 : (b == a) = false := by simpa using h'
      have hn : a.toNat ≠ b.toNat := fun e => h (UInt8.toNat_inj.1 e)
      simp only [e1, e2, Bool.false_and, Bool.or_false, List.cons_beq_cons, Bool.not_false, Bool.and_true]
      rw [Bool.eq_iff_iff]
      simp [UInt8.lt_iff_toNat_lt]
      omega

set_option maxRecDepth 20000 in
set_option maxHeartbeats 2000000 in
theorem numeral_any (s : ByteArray) (hs : s.size ≤ 4000) (h0 : 0 < s.size) (w : World) :
    Calls Tryz.prog 49 #[.string s] w fun e w' => e = .returned (.int .i64 (numE s.data.toList)) ∧ w' = w := by
  obtain ⟨V, hV⟩ : ∃ V, numE s.data.toList = V := ⟨_, rfl⟩
  rw [hV]
  replace hV : Hid _ := hV
  go_enter Tryz.func49, Tryz.ntmps49
  go_wp2
  go_loop [3] (fun i => ∃ k : Nat, k ≤ s.size ∧ i = .int .i64 k ∧ ∀ i d, i < k → s.data.toList[i]? = some d → digB d = true) (fun i => s.size - (intOf i).toNat)
  case atStart => exact ⟨0, by omega, rfl, fun i d h => by omega⟩
  case round =>
    obtain ⟨k, hk, rfl, hno⟩ := hrel
    by_cases hlt : k < s.size
    · have hc : s.data.toList[k]? = some s[k] := byte_at hlt
      have hT := take_run digB s.data.toList k s[k] hc hno
      have hD := digit_any s[k] w
      have hlt' : (k : Int) < (s.size : Int) := by omega
      clear hc
      replace hT : Hid _ := hT
      replace hno : Hid _ := hno
      cases h2 : digB s[k]
      · rw [h2] at hD
        have hp : Hid (V = 2) := by
          show V = 2
          rw [← hV.out]
          have := hT.out.2 h2
          unfold numE
          rw [allRunB, if_pos (by simp only [decide_eq_false_iff_not]; rw [this]; simp; omega)]
        clear hT h2
        go_wp2_with (go_at_call 48; refine hD.mono ?_; rintro e w' ⟨rfl, rfl⟩)
        go_ret
        exact ⟨ret_int (by rw [hp.out]), rfl⟩
      · rw [h2] at hD
        have hp : Hid (∀ i d, i < k + 1 → s.data.toList[i]? = some d → digB d = true) := hT.out.1 h2
        clear hT h2
        go_wp2_with (go_at_call 48; refine hD.mono ?_; rintro e w' ⟨rfl, rfl⟩)
        go_round
        case rel => exact ⟨k + 1, by omega, by go_num, hp.out⟩
        case measure => simp [intOf]; omega
    · obtain rfl : k = s.size := by omega
      have hall : s.data.toList.all digB = true := by
        rw [List.all_eq_true]
        intro d hd
        obtain ⟨i, hi, hd⟩ := List.getElem_of_mem hd
        exact hno i d (by simpa using hi) (by rw [List.getElem?_eq_getElem hi, hd])
      obtain ⟨c, r, hl, hc, _⟩ := list_cons s h0
      have hlen : s.data.toList.length = s.size := by simp
      have hhead : s.data.toList.head? = some s[0] := by rw [hl, hc]; rfl
      have hbig := num_big s.data.toList hall
      rw [hlen, hhead] at hbig
      have hnum : V = if 1 < s.size ∧ s[0] = 48 then 2 else if 9223372036854775807 < numV s.data.toList then 6 else 0 := by
        rw [← hV.out]
        unfold numE
        rw [hall, if_neg (by simp), hlen, hhead]
        simp
      clear hno hall hl hc hlen hhead hV
      have hloop : ¬ (s.size : Int) < (s.size : Int) := by omega
      have h0' : (0 : Int) < (s.size : Int) := by omega
      by_cases k1 : 1 < s.size
      · have k1' : (1 : Int) < (s.size : Int) := by omega
        by_cases k2 : s[0] = 48
        · have k2' : ((s[0].toNat : Int) == 48) = true := by rw [k2]; rfl
          have hp : Hid (V = 2) := hnum.trans (if_pos ⟨k1, k2⟩)
          clear hnum hbig k2
          go_wp2
          go_ret
          exact ⟨ret_int (by rw [hp.out]), rfl⟩
        · have k2' : ((s[0].toNat : Int) == 48) = false := by
            have : s[0].toNat ≠ 48 := fun e => k2 (UInt8.toNat_inj.1 e)
            simp; omega
          have hb := hbig (fun h => k2 (by simpa using h.2))
          rw [if_neg (fun h => k2 h.2)] at hnum
          clear hbig k2
          by_cases k3 : 19 < s.size
          · have k3' : (19 : Int) < (s.size : Int) := by omega
            have hp : Hid (V = 6) := hnum.trans (if_pos (hb.2 (.inl k3)))
            clear hnum hb
            go_wp2
            go_ret
            exact ⟨ret_int (by rw [hp.out]), rfl⟩
          · have k3' : ¬ (19 : Int) < (s.size : Int) := by omega
            by_cases k4 : s.size = 19
            · have k4' : ((s.size : Int) == 19) = true := by simp [k4]
              have hm := more_eq s.data.toList mostL
              cases hl : Op.bytesLess mostL s.data.toList
              · have hp : Hid (V = 0) := hnum.trans (if_neg (fun h => by have := hb.1 h; rw [hl] at this; simp at this; omega))
                rw [hl] at hm
                have hm' : (!Op.bytesLess s.toList [57, 50, 50, 51, 51, 55, 50, 48, 51, 54, 56, 53, 52, 55, 55, 53, 56, 48, 55] && !(s.toList == [57, 50, 50, 51, 51, 55, 50, 48, 51, 54, 56, 53, 52, 55, 55, 53, 56, 48, 55])) = false := by
                  rw [ByteArray.toList_eq]
                  exact hm
                clear hnum hb hl hm
                go_wp2
                go_ret
                exact ⟨ret_int (by rw [hp.out]), rfl⟩
              · have hp : Hid (V = 6) := hnum.trans (if_pos (hb.2 (.inr ⟨k4, hl⟩)))
                rw [hl] at hm
                have hm' : (!Op.bytesLess s.toList [57, 50, 50, 51, 51, 55, 50, 48, 51, 54, 56, 53, 52, 55, 55, 53, 56, 48, 55] && !(s.toList == [57, 50, 50, 51, 51, 55, 50, 48, 51, 54, 56, 53, 52, 55, 55, 53, 56, 48, 55])) = true := by
                  rw [ByteArray.toList_eq]
                  exact hm
                clear hnum hb hl hm
                go_wp2
                go_ret
                exact ⟨ret_int (by rw [hp.out]), rfl⟩
            · have k4' : ((s.size : Int) == 19) = false := by simp; omega
              have hp : Hid (V = 0) := hnum.trans (if_neg (fun h => by have := hb.1 h; omega))
              clear hnum hb k4
              go_wp2
              go_ret
              exact ⟨ret_int (by rw [hp.out]), rfl⟩
      · have k1' : ¬ (1 : Int) < (s.size : Int) := by omega
        have k3' : ¬ (19 : Int) < (s.size : Int) := by omega
        have k4' : ((s.size : Int) == 19) = false := by simp; omega
        have hb := hbig (fun h => k1 h.1)
        rw [if_neg (fun h => k1 h.1)] at hnum
        have hp : Hid (V = 0) := hnum.trans (if_neg (fun h => by have := hb.1 h; omega))
        clear hnum hb hbig
        go_wp2
        go_ret
        exact ⟨ret_int (by rw [hp.out]), rfl⟩
end Go.Proofs.YtnnppenlfocgiaaGreatDoor
namespace Go.Proofs.YtnnppenlfocgiaaGreatDoor
open Go.RowKit
open Go

def rqV (r : List UInt8) : Value := if r[runN txtB r]? = some 34 then .tuple #[.int .i64 (runN txtB r : Nat), .bool true] else .tuple #[.int .i64 0, .bool false]

set_option maxRecDepth 20000 in
set_option maxHeartbeats 2000000 in
theorem rquoted_any (s : ByteArray) (hs : s.size ≤ 4000) (a : Nat) (ha : a ≤ s.size) (w : World) :
    Calls Tryz.prog 50 #[.string s, .int .i64 a] w fun e w' => e = .returned (rqV (s.data.toList.drop a)) ∧ w' = w := by
  obtain ⟨V, hV⟩ : ∃ V, rqV (s.data.toList.drop a) = V := ⟨_, rfl⟩
  rw [hV]
  replace hV : Hid _ := hV
  go_enter Tryz.func50, Tryz.ntmps50
  go_wp2
  go_loop [6] (fun i => ∃ k : Nat, a + k ≤ s.size ∧ i = .int .i64 k ∧ ∀ i d, i < k → (s.data.toList.drop a)[i]? = some d → txtB d = true) (fun i => s.size - (intOf i).toNat)
  case atStart => exact ⟨0, by omega, rfl, fun i d h => by omega⟩
  case round =>
    obtain ⟨k, hk, rfl, hno⟩ := hrel
    by_cases hlt : a + k < s.size
    · have hc : (s.data.toList.drop a)[k]? = some s[a + k] := by
        rw [drop_get]; exact byte_at hlt
      have hT := take_run txtB (s.data.toList.drop a) k s[a + k] hc hno
      have hlt' : (a : Int) + (k : Int) < (s.size : Int) := by omega
      replace hT : Hid _ := hT
      replace hno : Hid _ := hno
      replace hc : Hid _ := hc
      by_cases h1 : s[a + k].toNat = 34
      · have h1' : ((s[a + k].toNat : Int) == 34) = true := by simp [h1]
        have hp : Hid (V = .tuple #[.int .i64 (k : Nat), .bool true]) := by
          show V = _
          have e34 : s[a + k] = 34 := UInt8.toNat_inj.1 h1
          have := hT.out.2 (by rw [e34]; decide)
          rw [← hV.out, rqV, this, hc.out, e34, if_pos rfl]
        clear hT h1 hc hno
        go_wp2
        go_ret2
        exact ⟨congrArg _ hp.out.symm, rfl⟩
      · have h1' : ((s[a + k].toNat : Int) == 34) = false := by simp; omega
        by_cases h2 : (s[a + k].toNat : Int) < 32 ∨ 126 < (s[a + k].toNat : Int)
        · have hp : Hid (V = .tuple #[.int .i64 0, .bool false]) := by
            show V = _
            have := hT.out.2 (by simp [txtB]; omega)
            rw [← hV.out, rqV, this, hc.out, if_neg (fun e => h1 (by injection e with e; rw [e]; rfl))]
          clear hT h1 hc hno
          rcases h2 with h2 | h2
          · go_wp2
            go_ret2
            exact ⟨congrArg _ hp.out.symm, rfl⟩
          · have h3 : ¬ (s[a + k].toNat : Int) < 32 := by omega
            go_wp2
            go_ret2
            exact ⟨congrArg _ hp.out.symm, rfl⟩
        · have h3 : ¬ (s[a + k].toNat : Int) < 32 := by omega
          have h4 : ¬ 126 < (s[a + k].toNat : Int) := by omega
          have hp : Hid (∀ i d, i < k + 1 → (s.data.toList.drop a)[i]? = some d → txtB d = true) := hT.out.1 (by simp [txtB]; omega)
          clear hT h1 hc hno h2
          go_wp2
          go_round
          case rel => exact ⟨k + 1, by omega, by go_num, hp.out⟩
          case measure => simp [intOf]; omega
    · have hlt' : ¬ (a : Int) + (k : Int) < (s.size : Int) := by omega
      have hp : Hid (V = .tuple #[.int .i64 0, .bool false]) := by
        show V = _
        have hn : (s.data.toList.drop a)[k]? = none := by rw [drop_get, List.getElem?_eq_none (by simp; omega)]
        have := runN_eq txtB (s.data.toList.drop a) k (by simp; omega) hno (fun c hc => by rw [hn] at hc; cases hc)
        rw [← hV.out, rqV, this, hn, if_neg (by simp)]
      clear hno
      go_wp2
      go_ret2
      exact ⟨congrArg _ hp.out.symm, rfl⟩

/-- The signs, the longer ones first. -/
def signsL : List (List UInt8) := [[61, 61], [60, 61], [46, 46]] ++ signs1.map (fun c => [c])
def firstS (r : List UInt8) : List UInt8 := (signsL.find? (fun p => Lib.hasPrefix r p)).getD []

theorem find_one (c : UInt8) (q : List UInt8) : ∀ L : List UInt8, (L.map (fun x => [x])).find? (fun p => Lib.hasPrefix (c :: q) p) = if L.contains c then some [c] else none
  | [] => rfl
  | x :: L => by
    rw [List.map_cons, List.find?_cons, find_one c q L, pre1, List.contains_cons]
    by_cases h : c = x
    · subst h; simp
    · have h' : ¬ x = c := fun e => h e.symm
      have e1 : (c == x) = false := by simpa using h
      simp [h, e1]
theorem firstS_eq (c : UInt8) (q : List UInt8) : firstS (c :: q) = (c :: q).take (signN (c :: q)) := by
  have hC := sign_cases c q
  unfold firstS signsL
  rw [List.find?_append, find_one]
  simp only [List.find?_cons, List.find?_nil]
  rcases hC with ⟨e1, e2, e3⟩ | ⟨e1, e2, e3, e4⟩ | ⟨e1, e2, e3, e4, e5⟩ | ⟨e1, e2, e3, e4⟩
  · rw [e1, e2, e3]; rfl
  · rw [e1, e2, e3, e4]; rfl
  · rw [e1, e2, e3, e4, e5]; rfl
  · rw [e1, e2, e3]
    have hn := index_neg signs1 c
    rcases e4 with ⟨k1, k2⟩ | ⟨k1, k2⟩
    · rw [k2, hn.1 k1]; rfl
    · rw [k2]
      have : signs1.contains c = true := by
        cases h : signs1.contains c
        · have := hn.2 h; omega
        · rfl
      rw [this]; rfl

def signCells : Array Value := #[.string ⟨#[61, 61]⟩, .string ⟨#[60, 61]⟩, .string ⟨#[46, 46]⟩, .string ⟨#[40]⟩, .string ⟨#[41]⟩, .string ⟨#[123]⟩, .string ⟨#[125]⟩, .string ⟨#[91]⟩, .string ⟨#[93]⟩, .string ⟨#[44]⟩, .string ⟨#[59]⟩, .string ⟨#[61]⟩, .string ⟨#[60]⟩, .string ⟨#[43]⟩, .string ⟨#[45]⟩, .string ⟨#[42]⟩, .string ⟨#[47]⟩, .string ⟨#[37]⟩, .string ⟨#[35]⟩]

theorem signCells_get (k : Nat) (p : List UInt8) (h : signsL[k]? = some p) : signCells[k]? = some (.string ⟨p.toArray⟩) := by
  have e : signCells = (signsL.map (fun p => Value.string ⟨p.toArray⟩)).toArray := rfl
  rw [e]
  simp [h]
theorem heap_drewN (w : World) (n : Nat) : (w.drewN n).heap = w.heap := rfl
theorem below_drewN {m : Nat} {w W : World} (h : Below m w W) (n : Nat) : Below m w (W.drewN n) := ⟨h.os, h.tape, h.output, h.size, h.block⟩
theorem signsL_len : signsL.length = 19 := rfl
theorem signsL_short (k : Nat) (p : List UInt8) (h : signsL[k]? = some p) : 0 < p.length ∧ p.length ≤ 2 := by
  have : ∀ p ∈ signsL, 0 < p.length ∧ p.length ≤ 2 := by decide
  exact this p (List.mem_of_getElem? h)
theorem pre_piece (s P : ByteArray) (a : Nat) (hP : 0 < P.size) :
    Lib.hasPrefix (s.data.toList.drop a) P.data.toList = (decide ((a : Int) + (P.size : Int) ≤ (s.size : Int)) && ((s.extract a (a + P.size)).toList == P.toList)) := by
  have hz : P.data.toList.length = P.size := by simp
  rw [ByteArray.toList_eq, ByteArray.toList_eq, piece_list, Nat.add_sub_cancel_left]
  unfold Lib.hasPrefix
  rw [Bool.eq_iff_iff, List.isPrefixOf_iff_prefix]
  simp only [Bool.and_eq_true, decide_eq_true_eq, beq_iff_eq]
  constructor
  · intro h
    have hl := h.length_le
    rw [hz] at hl
    simp at hl
    refine ⟨by omega, ?_⟩
    rw [List.prefix_iff_eq_take] at h
    rw [hz] at h
    exact h.symm
  · rintro ⟨_, h⟩
    rw [← h]
    exact List.take_prefix _ _
theorem find_not {r : List UInt8} {k : Nat} {p : List UInt8} (hno : ∀ j q, j < k → signsL[j]? = some q → Lib.hasPrefix r q = false) (hp : signsL[k]? = some p) (h : Lib.hasPrefix r p = true) : firstS r = p := by
  unfold firstS
  have : signsL.find? (fun p => Lib.hasPrefix r p) = some p := by
    rw [List.find?_eq_some_iff_getElem]
    obtain ⟨hk, hk'⟩ := List.getElem?_eq_some_iff.1 hp
    exact ⟨h, k, hk, hk', fun j hj => by rw [hno j _ hj (List.getElem?_eq_getElem (by omega))]; rfl⟩
  rw [this]; rfl
theorem find_none {r : List UInt8} (hno : ∀ j q, j < 19 → signsL[j]? = some q → Lib.hasPrefix r q = false) : firstS r = [] := by
  unfold firstS
  have : signsL.find? (fun p => Lib.hasPrefix r p) = none := by
    rw [List.find?_eq_none]
    intro q hq
    obtain ⟨j, hj, hj'⟩ := List.getElem_of_mem hq
    rw [hno j q (by rw [signsL_len] at hj; exact hj) (by rw [List.getElem?_eq_getElem hj, hj'])]
    simp
  rw [this]; rfl

set_option maxRecDepth 20000 in
set_option maxHeartbeats 2000000 in
theorem rsign_any (s : ByteArray) (hs : s.size ≤ 4000) (a : Nat) (ha : a < s.size) (w : World) :
    Calls Tryz.prog 51 #[.string s, .int .i64 a] w fun e w' => e = .returned (.string ⟨(firstS (s.data.toList.drop a)).toArray⟩) ∧ Below w.heap.size w w' := by
  obtain ⟨V, hV⟩ : ∃ V, firstS (s.data.toList.drop a) = V := ⟨_, rfl⟩
  rw [hV]
  replace hV : Hid _ := hV
  go_enter Tryz.func51, Tryz.ntmps51
  go_wp2
  go_loopw [6] (fun i wr => ∃ k : Nat, k ≤ 19 ∧ i = .int .i64 k ∧ Below w.heap.size w wr ∧ wr.heap[w.heap.size]? = some (.cells signCells 9) ∧ ∀ j q, j < k → signsL[j]? = some q → Lib.hasPrefix (s.data.toList.drop a) q = false) (fun i _ => 19 - (intOf i).toNat)
  case atStart => exact ⟨0, by omega, rfl, ext_alloc (Below.refl _ _) _, alloc_new _ _, fun j q h => by omega⟩
  case round =>
    obtain ⟨k, hk, rfl, hb, hr, hno⟩ := hrel
    by_cases hlt : k < 19
    · obtain ⟨p, hp⟩ : ∃ p, signsL[k]? = some p := ⟨signsL[k]'(by rw [signsL_len]; exact hlt), List.getElem?_eq_getElem _⟩
      have hcell := cell_block hr (signCells_get k p hp)
      obtain ⟨hp1, hp2⟩ := signsL_short k p hp
      have hfn := find_not hno hp
      rw [hV.out] at hfn
      have hno2 : Lib.hasPrefix (s.data.toList.drop a) p = false → ∀ j q, j < k + 1 → signsL[j]? = some q → Lib.hasPrefix (s.data.toList.drop a) q = false := fun h j q hj hq => by
        by_cases e : j = k
        · subst e; rw [hp] at hq; cases hq; exact h
        · exact hno j q (by omega) hq
      obtain ⟨P, hP⟩ : ∃ P : ByteArray, ⟨p.toArray⟩ = P := ⟨_, rfl⟩
      have hPl : P.data.toList = p := by rw [← hP]
      have hPz : P.size = p.length := by rw [← hP]; simp [ByteArray.size]
      rw [hP] at hcell
      rw [← hPl] at hfn hno2
      have hpp := pre_piece s P a (by omega)
      rw [hpp] at hfn hno2
      have hP1 : 0 < P.size := by omega
      have hP2 : P.size ≤ 2 := by omega
      clear hp hp1 hp2 hP hPl hPz hpp hno
      have hlt' : (k : Int) < 19 := by omega
      have hk0 : (0 : Int) ≤ (k : Int) := by omega
      by_cases g : (a : Int) + (P.size : Int) ≤ (s.size : Int)
      · have g1 : decide ((a : Int) + (P.size : Int) ≤ (s.size : Int)) = true := decide_eq_true g
        rw [g1, Bool.true_and] at hfn hno2
        cases he : ((s.extract a (a + P.size)).toList == P.toList)
        · have hno3 : Hid _ := hno2 he
          clear hno2 hfn
          go_wp2
          go_quiet (fail)
          go_wp2
          go_roundw
          case rel => exact ⟨k + 1, by omega, by go_num, below_drewN hb nq, by rw [heap_drewN]; exact hr, hno3.out⟩
          case measure => simp [intOf]; omega
        · have hfn' : Hid _ := hfn he
          clear hno2 hfn
          go_wp2
          go_quiet (fail)
          go_wp2
          go_ret
          exact ⟨by rw [hfn'.out, ba_list]; rfl, below_drewN hb nq⟩
      · have g1 : decide ((a : Int) + (P.size : Int) ≤ (s.size : Int)) = false := decide_eq_false g
        rw [g1, Bool.false_and] at hfn hno2
        have hno3 : Hid _ := hno2 rfl
        clear hno2 hfn g
        go_wp2
        go_quiet (fail)
        go_wp2
        go_roundw
        case rel => exact ⟨k + 1, by omega, by go_num, below_drewN hb nq, by rw [heap_drewN]; exact hr, hno3.out⟩
        case measure => simp [intOf]; omega
    · obtain rfl : k = 19 := by omega
      have hn : Hid _ := find_none hno
      rw [hV.out] at hn
      clear hno
      go_wp2
      go_ret
      exact ⟨by rw [hn.out]; rfl, hb⟩
end Go.Proofs.YtnnppenlfocgiaaGreatDoor
namespace Go.Proofs.YtnnppenlfocgiaaGreatDoor
open Go.RowKit
open Go

theorem res37 {tm : Array Value} {W : World} {B : Nat} {k : Int} {t : ByteArray} {a : Int} {n e : Int} (h : tm[4]?.getD undef = .pointer (some ⟨B, 0, none⟩)) (h3 : tm[5]?.getD undef = .int .i64 n) (h4 : tm[6]?.getD undef = .int .i64 e) (hx : W.heap[B]? = some (tbx k t a)) : (results Tryz.f27 tm).run Tryz.prog W = .ok (.tuple #[tokv k t a, .int .i64 n, .int .i64 e]) W := by
  obtain ⟨c0, c1, c2, _, _, _⟩ := in3 hx
  simp [results, Tryz.results27, go_sem, h, h3, h4, c0, c1, c2]

/-- What the document's reading of one token answers. -/
def RT (a : Nat) (R : TokR) (k : Int) (t : ByteArray) (p : Int) (n : Int) (e : Int) : Prop :=
  match R with
  | .inl x => e = x
  | .inr (k1, t1, n1) => k = k1 ∧ t = ⟨t1.toArray⟩ ∧ p = (a : Nat) ∧ n = (n1 : Nat) ∧ e = 0

theorem cut_eq (s : ByteArray) (a n : Nat) : s.extract a (a + n) = ⟨((s.data.toList.drop a).take n).toArray⟩ := by
  have h := piece_list s a (a + n)
  rw [Nat.add_sub_cancel_left] at h
  rw [← h, ba_list]

set_option maxRecDepth 20000 in
set_option maxHeartbeats 4000000 in
theorem refToken_any (s : ByteArray) (hs : s.size ≤ 4000) (a : Nat) (ha : a < s.size) (w : World) :
    Calls Tryz.prog 27 #[.string s, .int .i64 a] w fun e w' => (∃ k t p n c, e = .returned (.tuple #[tokv k t p, .int .i64 n, .int .i64 c]) ∧ RT a (tokR (s.data.toList.drop a)) k t p n c) ∧ Below w.heap.size w w' := by
  obtain ⟨T, hT⟩ : ∃ T, tokR (s.data.toList.drop a) = T := ⟨_, rfl⟩
  rw [hT]
  have hr := alloc_new w zeroTok
  have hb0 : Below w.heap.size w (w.alloc zeroTok) := ext_alloc (Below.refl _ _) _
  have ha' : (a : Int) < (s.size : Int) := by omega
  have hRow := fun u => row_any s hs a (by omega) u
  have hLet := fun u => letter_any s[a] u
  have hDig := fun u => digit_any s[a] u
  have hd : s.data.toList.drop a = s[a] :: s.data.toList.drop (a + 1) := by
    rw [List.drop_eq_getElem_cons (by simpa using ha)]; rfl
  have hle := runN_le rowB (s.data.toList.drop a)
  have hle2 : runN rowB (s.data.toList.drop a) ≤ s.size - a := by simpa using hle
  have hcut := cut_eq s a (runN rowB (s.data.toList.drop a))
  have hTT := hT
  rw [hd] at hTT
  unfold tokR at hTT
  simp only at hTT
  rw [← hd] at hTT
  clear hle
  cases hl : letB s[a]
  · rw [hl] at hLet
    cases hg : digB s[a]
    · rw [hg] at hDig
      by_cases h34 : s[a].toNat = 34
      · have h34' : ((s[a].toNat : Int) == 34) = true := by simp [h34]
        have hQ := fun u => rquoted_any s hs (a + 1) (by omega) u
        rw [if_neg (by simp [hl]), if_neg (by simp [hg]), if_pos h34] at hTT
        have hcast : (((a + 1 : Nat)) : Int) = (a : Int) + 1 := by omega
        rw [hcast] at hQ
        clear hcast hcut
        obtain ⟨m, hm⟩ : ∃ m, runN txtB (s.data.toList.drop (a + 1)) = m := ⟨_, rfl⟩
        have hm1 := runN_le txtB (s.data.toList.drop (a + 1))
        have hm2 : m ≤ s.size - (a + 1) := by rw [← hm]; simpa using hm1
        have hcut := cut_eq s (a + 1) m
        unfold rqV at hQ
        rw [hm] at hQ hTT
        obtain ⟨n, hn⟩ : ∃ n, runN rowB (s.data.toList.drop a) = n := ⟨_, rfl⟩
        rw [hn] at hRow hle2
        clear hn hT hd hm hm1 hl hg h34
        by_cases hq : (s.data.toList.drop (a + 1))[m]? = some 34
        · rw [if_pos hq] at hQ hTT
          clear hq
          by_cases h3 : 300 < m
          · have h3' : (300 : Int) < (m : Int) := by omega
            rw [if_pos h3] at hTT
            replace hTT : Hid _ := hTT
            replace hcut : Hid _ := hcut
            go_enter Tryz.func27, Tryz.ntmps27
            go_wp2_with (first | (go_at_call 46; refine (hRow _).mono ?_; rintro e w' ⟨rfl, rfl⟩) | (go_at_call 47; refine (hLet _).mono ?_; rintro e w' ⟨rfl, rfl⟩) | (go_at_call 48; refine (hDig _).mono ?_; rintro e w' ⟨rfl, rfl⟩) | (go_at_call 50; refine (hQ _).mono ?_; rintro e w' ⟨rfl, rfl⟩))
            exact bodyPost_ret (res37 rfl rfl rfl (alloc_new _ _)) rfl ⟨⟨_, _, _, _, _, rfl, by rw [← hTT.out]; rfl⟩, ext_alloc (Below.refl _ _) _⟩
          · have h3' : ¬ (300 : Int) < (m : Int) := by omega
            rw [if_neg h3] at hTT
            replace hTT : Hid _ := hTT
            replace hcut : Hid _ := hcut
            go_enter Tryz.func27, Tryz.ntmps27
            go_wp2_with (first | (go_at_call 46; refine (hRow _).mono ?_; rintro e w' ⟨rfl, rfl⟩) | (go_at_call 47; refine (hLet _).mono ?_; rintro e w' ⟨rfl, rfl⟩) | (go_at_call 48; refine (hDig _).mono ?_; rintro e w' ⟨rfl, rfl⟩) | (go_at_call 50; refine (hQ _).mono ?_; rintro e w' ⟨rfl, rfl⟩))
            exact bodyPost_ret (res37 rfl rfl rfl (alloc_new _ _)) rfl ⟨⟨_, _, _, _, _, rfl, by rw [← hTT.out]; exact ⟨rfl, hcut.out, rfl, by simp, rfl⟩⟩, ext_alloc (Below.refl _ _) _⟩
        · rw [if_neg hq] at hQ hTT
          clear hq
          replace hTT : Hid _ := hTT
          replace hcut : Hid _ := hcut
          go_enter Tryz.func27, Tryz.ntmps27
          go_wp2_with (first | (go_at_call 46; refine (hRow _).mono ?_; rintro e w' ⟨rfl, rfl⟩) | (go_at_call 47; refine (hLet _).mono ?_; rintro e w' ⟨rfl, rfl⟩) | (go_at_call 48; refine (hDig _).mono ?_; rintro e w' ⟨rfl, rfl⟩) | (go_at_call 50; refine (hQ _).mono ?_; rintro e w' ⟨rfl, rfl⟩))
          exact bodyPost_ret (res37 rfl rfl rfl (alloc_new _ _)) rfl ⟨⟨_, _, _, _, _, rfl, by rw [← hTT.out]; rfl⟩, ext_alloc (Below.refl _ _) _⟩
      · have h34' : ((s[a].toNat : Int) == 34) = false := by simp; omega
        have hS := fun u => rsign_any s hs a ha u
        rw [if_neg (by simp [hl]), if_neg (by simp [hg]), if_neg h34] at hTT
        have hfs : firstS (s.data.toList.drop a) = (s.data.toList.drop a).take (signN (s.data.toList.drop a)) := by rw [hd]; exact firstS_eq _ _
        rw [hfs, ← cut_eq] at hS
        have hsl := signN_le (s.data.toList.drop a)
        have hsl2 : signN (s.data.toList.drop a) ≤ s.size - a := by simpa using hsl
        clear hcut
        have hcut := cut_eq s a (signN (s.data.toList.drop a))
        obtain ⟨m, hm⟩ : ∃ m, signN (s.data.toList.drop a) = m := ⟨_, rfl⟩
        rw [hm] at hS hTT hsl2 hcut
        obtain ⟨n, hn⟩ : ∃ n, runN rowB (s.data.toList.drop a) = n := ⟨_, rfl⟩
        rw [hn] at hRow hle2
        clear hn hT hd hm hsl hl hg h34 hfs
        have hsz : (s.extract a (a + m)).size = m := by simp; omega
        obtain ⟨E, hE⟩ : ∃ E, s.extract a (a + m) = E := ⟨_, rfl⟩
        rw [hE] at hS hcut hsz
        clear hE
        by_cases h0 : m = 0
        · have he : (E.toList == []) = true := by
            rw [ByteArray.toList_eq]
            have : E.data.toList.length = 0 := by rw [Array.length_toList]; show E.size = 0; omega
            rw [List.eq_nil_of_length_eq_zero this]; rfl
          rw [if_pos h0] at hTT
          clear h0
          replace hTT : Hid _ := hTT
          replace hcut : Hid _ := hcut
          replace hsz : Hid _ := hsz
          go_enter Tryz.func27, Tryz.ntmps27
          go_wp2_with (first | (go_at_call 46; refine (hRow _).mono ?_; rintro e w' ⟨rfl, rfl⟩) | (go_at_call 47; refine (hLet _).mono ?_; rintro e w' ⟨rfl, rfl⟩) | (go_at_call 48; refine (hDig _).mono ?_; rintro e w' ⟨rfl, rfl⟩) | (go_at_call 51; refine (hS _).mono ?_; rintro e w2 ⟨rfl, hb2⟩; have hr2 := block_below hb2 hr; obtain ⟨c0, c1, c2, f0, f1, f2⟩ := in3 hr2))
          exact bodyPost_ret (res37 rfl rfl rfl (put3_same _ _ _ hr2)) rfl ⟨⟨_, _, _, _, _, rfl, by rw [← hTT.out]; rfl⟩, put3_below _ _ _ (ext_trans hb0 hb2) (Nat.le_refl _)⟩
        · have he : (E.toList == []) = false := by
            rw [ByteArray.toList_eq]
            cases h : E.data.toList with
            | nil =>
              have := congrArg List.length h
              rw [Array.length_toList] at this
              have h2 : E.size = 0 := this
              omega
            | cons => rfl
          rw [if_neg h0] at hTT
          clear h0
          replace hTT : Hid _ := hTT
          replace hcut : Hid _ := hcut
          have hszz : E.size ≤ 4000 := by omega
          replace hsz : Hid _ := hsz
          go_enter Tryz.func27, Tryz.ntmps27
          go_wp2_with (first | (go_at_call 46; refine (hRow _).mono ?_; rintro e w' ⟨rfl, rfl⟩) | (go_at_call 47; refine (hLet _).mono ?_; rintro e w' ⟨rfl, rfl⟩) | (go_at_call 48; refine (hDig _).mono ?_; rintro e w' ⟨rfl, rfl⟩) | (go_at_call 51; refine (hS _).mono ?_; rintro e w2 ⟨rfl, hb2⟩; have hr2 := block_below hb2 hr; obtain ⟨c0, c1, c2, f0, f1, f2⟩ := in3 hr2))
          exact bodyPost_ret (res37 rfl rfl rfl (put3_same _ _ _ hr2)) rfl ⟨⟨_, _, _, _, _, rfl, by rw [← hTT.out]; exact ⟨rfl, hcut.out, rfl, by rw [hsz.out], rfl⟩⟩, put3_below _ _ _ (ext_trans hb0 hb2) (Nat.le_refl _)⟩
    · rw [hg] at hDig
      rw [if_neg (by simp [hl]), if_pos hg] at hTT
      have hpos : 0 < runN rowB (s.data.toList.drop a) := by rw [hd]; simp [runN, rowB, hg]
      have hN := fun u => numeral_any (s.extract a (a + runN rowB (s.data.toList.drop a))) (by simp; omega) (by simp; omega) u
      rw [piece_list, Nat.add_sub_cancel_left] at hN
      obtain ⟨n, hn⟩ : ∃ n, runN rowB (s.data.toList.drop a) = n := ⟨_, rfl⟩
      rw [hn] at hRow hTT hcut hle2 hN hpos
      clear hn hT hd hl hg
      obtain ⟨x, hx⟩ : ∃ x, numE ((s.data.toList.drop a).take n) = x := ⟨_, rfl⟩
      rw [hx] at hN hTT
      clear hx
      replace hTT : Hid _ := hTT
      replace hcut : Hid _ := hcut
      go_enter Tryz.func27, Tryz.ntmps27
      go_wp2_with (first | (go_at_call 46; refine (hRow _).mono ?_; rintro e w' ⟨rfl, rfl⟩) | (go_at_call 47; refine (hLet _).mono ?_; rintro e w' ⟨rfl, rfl⟩) | (go_at_call 48; refine (hDig _).mono ?_; rintro e w' ⟨rfl, rfl⟩) | (go_at_call 49; refine (hN _).mono ?_; rintro e w' ⟨rfl, rfl⟩))
      refine bodyPost_ret (res37 rfl rfl rfl (alloc_new _ _)) rfl ⟨⟨_, _, _, _, _, rfl, ?_⟩, ext_alloc (Below.refl _ _) _⟩
      rw [← hTT.out]
      by_cases h0 : x = 0
      · rw [if_pos h0]; exact ⟨rfl, hcut.out, rfl, rfl, h0⟩
      · rw [if_neg h0]; rfl
  · rw [if_pos hl] at hTT
    obtain ⟨n, hn⟩ : ∃ n, runN rowB (s.data.toList.drop a) = n := ⟨_, rfl⟩
    rw [hn] at hRow hTT hcut hle2
    clear hn hT hd
    by_cases h16 : 16 < n
    · have h16' : (16 : Int) < (n : Int) := by omega
      rw [if_pos h16] at hTT
      replace hTT : Hid _ := hTT
      replace hcut : Hid _ := hcut
      rw [hl] at hLet
      go_enter Tryz.func27, Tryz.ntmps27
      go_wp2_with (first | (go_at_call 46; refine (hRow _).mono ?_; rintro e w' ⟨rfl, rfl⟩) | (go_at_call 47; refine (hLet _).mono ?_; rintro e w' ⟨rfl, rfl⟩))
      exact bodyPost_ret (res37 rfl rfl rfl (alloc_new _ _)) rfl ⟨⟨_, _, _, _, _, rfl, by rw [← hTT.out]; rfl⟩, hb0⟩
    · have h16' : ¬ (16 : Int) < (n : Int) := by omega
      rw [if_neg h16] at hTT
      replace hTT : Hid _ := hTT
      replace hcut : Hid _ := hcut
      rw [hl] at hLet
      go_enter Tryz.func27, Tryz.ntmps27
      go_wp2_with (first | (go_at_call 46; refine (hRow _).mono ?_; rintro e w' ⟨rfl, rfl⟩) | (go_at_call 47; refine (hLet _).mono ?_; rintro e w' ⟨rfl, rfl⟩))
      exact bodyPost_ret (res37 rfl rfl rfl (alloc_new _ _)) rfl ⟨⟨_, _, _, _, _, rfl, by rw [← hTT.out]; exact ⟨rfl, hcut.out, rfl, rfl, rfl⟩⟩, ext_alloc (Below.refl _ _) _⟩
end Go.Proofs.YtnnppenlfocgiaaGreatDoor
namespace Go.Proofs.YtnnppenlfocgiaaGreatDoor
open Go.RowKit
open Go

theorem res19 {tm : Array Value} {W : World} {B : Nat} {v : Value} {c a : Int} (h : tm[3]?.getD undef = .pointer (some ⟨B, 0, none⟩)) (h2 : tm[2]?.getD undef = v) (hx : W.heap[B]? = some (.cells #[.int .i64 c, .int .i64 a] 27)) : (results Tryz.f16 tm).run Tryz.prog W = .ok (.tuple #[v, .agg #[.int .i64 c, .int .i64 a]]) W := by
  have c0 : W.cell? ⟨B, 0, none⟩ = some (.int .i64 c) := cell_block hx rfl
  have c1 : W.cell? ⟨B, 1, none⟩ = some (.int .i64 a) := cell_block hx rfl
  simp [results, Tryz.results16, go_sem, h, h2, c0, c1]

set_option maxRecDepth 20000 in
set_option maxHeartbeats 2000000 in
theorem rscan_big (s : ByteArray) (hs : 4000 < s.size) (w : World) : Calls Tryz.prog 16 #[.string s] w (Out w (.bad 1 0)) := by
  have hs' : (4000 : Int) < (s.size : Int) := by omega
  go_enter Tryz.func16, Tryz.ntmps16
  go_wp2
  exact bodyPost_ret (res19 rfl rfl (alloc_new _ _)) rfl ⟨⟨none, 0, 0, rfl, World.ownsRow_nil _ _ _ _⟩, ext_alloc (Below.refl _ _) _⟩

theorem gap1_blank {c : UInt8} {r : List UInt8} (h : c.toNat = 32 ∨ c.toNat = 10) : gap1 (c :: r) = 1 := by simp [gap1, h]
theorem gap1_note {c : UInt8} {r : List UInt8} (h : c.toNat = 45) (hr : r.head? = some 45) : gap1 (c :: r) = runN noteB (c :: r) := by
  simp only [gap1]
  rw [if_neg (by omega), if_pos ⟨h, hr⟩]
theorem gap1_none {c : UInt8} {r : List UInt8} (h1 : ¬ (c.toNat = 32 ∨ c.toNat = 10)) (h2 : ¬ (c.toNat = 45 ∧ r.head? = some 45)) : gap1 (c :: r) = 0 := by
  simp only [gap1]
  rw [if_neg h1, if_neg h2]

set_option maxRecDepth 20000 in
set_option maxHeartbeats 8000000 in
theorem rscan_ok (s : ByteArray) (hs : s.size ≤ 4000) (w : World) : Calls Tryz.prog 16 #[.string s] w (Out w (scanR 0 s.data.toList)) := by
  obtain ⟨i0, hi0, hz0, hz1, hz2⟩ := info_parts info44
  have hs' : ¬ (4000 : Int) < (s.size : Int) := by omega
  obtain ⟨R, hR⟩ : ∃ R, scanR 0 s.data.toList = R := ⟨_, rfl⟩
  rw [hR]
  have hlen : s.data.toList.length = s.size := by simp
  have hS0 : SI w (.slice none 0 0) [] (w.alloc zeroF) := ⟨World.ownsRow_nil _ _ _ _, alloc_new _ _, ext_alloc (Below.refl _ _) _⟩
  replace hlen : Hid _ := hlen
  replace hR : Hid _ := hR
  go_enter Tryz.func16, Tryz.ntmps16
  go_wp2
  go_loopw [4, 5] (fun v i wr => ∃ (k : Nat) (b : Option Addr) (n d : Nat) (ts : List Tok), k ≤ s.size ∧ i = .int .i64 k ∧ v = .slice b n d ∧ SI w v ts wr ∧ R = ScanR.pre ts (scanR k (s.data.toList.drop k)) ∧ ts.length ≤ k) (fun _ i _ => s.size - (intOf i).toNat)
  case atStart => exact ⟨0, none, 0, 0, [], Nat.zero_le _, rfl, rfl, hS0, by rw [ScanR.pre_nil, ← hR.out]; simp, Nat.zero_le _⟩
  case round =>
    clear hS0
    obtain ⟨k, b, n, d, ts, hk, rfl, rfl, hS, hRk, htl⟩ := hrel
    obtain ⟨c0, c1, f0, f1⟩ := in2 hS.r
    by_cases hlt : k < s.size
    · have hne : s.data.toList.drop k ≠ [] := by
        intro e
        have := congrArg List.length e
        simp at this
        omega
      have hd : s.data.toList.drop k = s[k] :: s.data.toList.drop (k + 1) := by
        rw [List.drop_eq_getElem_cons (by simpa using hlt)]; rfl
      have hk' : (k : Int) < (s.size : Int) := by omega
      by_cases h32 : s[k].toNat = 32
      · have h32' : ((s[k].toNat : Int) == 32) = true := by simp [h32]
        have hg1 : gap1 (s.data.toList.drop k) = 1 := by rw [hd]; exact gap1_blank (.inl h32)
        have hR1 : Hid (R = ScanR.pre ts (scanR (k + 1) (s.data.toList.drop (k + 1)))) := by
          show R = _
          rw [hRk, scanR_gap (by rw [hg1]; omega), hg1, List.drop_drop]
        clear hRk hg1 hd hne h32
        go_wp2
        go_roundw
        case rel => exact ⟨k + 1, _, _, _, ts, by omega, by go_num, rfl, hS, hR1.out, by omega⟩
        case measure => simp [intOf]; omega
      have h32' : ((s[k].toNat : Int) == 32) = false := by simp; omega
      by_cases h10 : s[k].toNat = 10
      · have h10' : ((s[k].toNat : Int) == 10) = true := by simp [h10]
        have hg1 : gap1 (s.data.toList.drop k) = 1 := by rw [hd]; exact gap1_blank (.inr h10)
        have hR1 : Hid (R = ScanR.pre ts (scanR (k + 1) (s.data.toList.drop (k + 1)))) := by
          show R = _
          rw [hRk, scanR_gap (by rw [hg1]; omega), hg1, List.drop_drop]
        clear hRk hg1 hd hne h32 h10
        go_wp2
        go_roundw
        case rel => exact ⟨k + 1, _, _, _, ts, by omega, by go_num, rfl, hS, hR1.out, by omega⟩
        case measure => simp [intOf]; omega
      have h10' : ((s[k].toNat : Int) == 10) = false := by simp; omega
      have hn12 : ¬ (s[k].toNat = 32 ∨ s[k].toNat = 10) := by omega
      clear h32 h10
      by_cases h45 : s[k].toNat = 45
      · have h45' : ((s[k].toNat : Int) == 45) = true := by simp [h45]
        by_cases hk1 : k + 1 < s.size
        · have hk1' : (k : Int) + 1 < (s.size : Int) := by omega
          have hhead : (s.data.toList.drop (k + 1)).head? = some s[k + 1] := by
            rw [List.drop_eq_getElem_cons (by simpa using hk1)]; rfl
          by_cases h45b : s[k + 1].toNat = 45
          · have h45b' : ((s[k + 1].toNat : Int) == 45) = true := by simp [h45b]
            have hg1 : gap1 (s.data.toList.drop k) = runN noteB (s.data.toList.drop k) := by
              rw [hd]; exact gap1_note h45 (by rw [hhead, UInt8.toNat_inj.1 (show s[k + 1].toNat = (45 : UInt8).toNat from h45b)])
            have hpos : 0 < runN noteB (s.data.toList.drop k) := by rw [hd]; simp [runN, noteB, h45]
            have hR1 : Hid (R = ScanR.pre ts (scanR (k + runN noteB (s.data.toList.drop k)) (s.data.toList.drop (k + runN noteB (s.data.toList.drop k))))) := by
              show R = _
              rw [hRk, scanR_gap (by rw [hg1]; omega), hg1, List.drop_drop]
            clear hRk hg1 hd hne h45 h45b hhead
            obtain ⟨m, hm⟩ : ∃ m, runN noteB (s.data.toList.drop k) = m := ⟨_, rfl⟩
            rw [hm] at hR1 hpos
            replace hm : Hid _ := hm
            go_wp2
            go_loop [5] (fun i => ∃ q : Nat, k ≤ q ∧ q ≤ s.size ∧ i = .int .i64 q ∧ ∀ i d, i < q - k → (s.data.toList.drop k)[i]? = some d → noteB d = true) (fun i => s.size - (intOf i).toNat)
            case atStart => exact ⟨k, by omega, by omega, by simp, fun i d h => by omega⟩
            case round =>
              obtain ⟨q, hq1, hq2, rfl, hno⟩ := hrel
              by_cases hq : q < s.size
              · have hq' : (q : Int) < (s.size : Int) := by omega
                have hc : (s.data.toList.drop k)[q - k]? = some s[q] := by
                  rw [drop_get, show k + (q - k) = q by omega]; exact byte_at hq
                have hT := take_run noteB (s.data.toList.drop k) (q - k) s[q] hc hno
                rw [hm.out] at hT
                by_cases hx : s[q].toNat = 10
                · have hx' : ((s[q].toNat : Int) == 10) = true := by simp [hx]
                  have hmm : m = q - k := hT.2 (by simp [noteB, hx])
                  have hR2 : Hid (R = ScanR.pre ts (scanR q (s.data.toList.drop q))) := by
                    have := hR1.out
                    rw [hmm, show k + (q - k) = q by omega] at this
                    exact this
                  have hkq : k < q := by omega
                  clear hT hc hno hR1 hx hmm
                  go_wp2
                  go_roundw
                  case rel => exact ⟨q, _, _, _, ts, by omega, rfl, rfl, hS, hR2.out, by omega⟩
                  case measure => simp [intOf]; omega
                · have hx' : ((s[q].toNat : Int) == 10) = false := by simp; omega
                  have hp : Hid (∀ i d, i < q + 1 - k → (s.data.toList.drop k)[i]? = some d → noteB d = true) := fun i d hi hd => hT.1 (by simp [noteB, hx]) i d (by omega) hd
                  clear hT hc hno hx
                  go_wp2
                  go_round
                  case rel => exact ⟨q + 1, by omega, by omega, by go_num, hp.out⟩
                  case measure => simp [intOf]; omega
              · have hq' : ¬ (q : Int) < (s.size : Int) := by omega
                have hmm : m = q - k := by
                  rw [← hm.out]
                  exact runN_eq noteB _ _ (by simp; omega) hno (fun c hc => by rw [drop_get, List.getElem?_eq_none (by simp; omega)] at hc; cases hc)
                have hR2 : Hid (R = ScanR.pre ts (scanR q (s.data.toList.drop q))) := by
                  have := hR1.out
                  rw [hmm, show k + (q - k) = q by omega] at this
                  exact this
                have hkq : k < q := by omega
                clear hno hR1 hmm
                go_wp2
                go_roundw
                case rel => exact ⟨q, _, _, _, ts, by omega, rfl, rfl, hS, hR2.out, by omega⟩
                case measure => simp [intOf]; omega
          · have h45b' : ((s[k + 1].toNat : Int) == 45) = false := by simp; omega
            have hgap : gap1 (s.data.toList.drop k) = 0 := by
              rw [hd]; exact gap1_none hn12 (fun h => h45b (by have := h.2; rw [hhead] at this; injection this with this; rw [this]; rfl))
            clear hd h45 h45b hhead hn12
            have hC := fun u => refToken_any s hs k hlt u
            cases ht : tokR (s.data.toList.drop k) using TokR.byCases with
            | bad e =>
              have hRb : Hid (R = .bad e k) := hRk.trans (by rw [scanR_bad hne hgap ht]; rfl)
              obtain ⟨hne0, _, _⟩ := bad_ne ht
              have hCb : ∀ u, Calls Tryz.prog 27 #[.string s, .int .i64 k] u fun x w' => (∃ k1 t p n, x = .returned (.tuple #[tokv k1 t p, .int .i64 n, .int .i64 e])) ∧ Below u.heap.size u w' := fun u => (hC u).mono fun x w' ⟨⟨k1, t, p, n, c, h1, h2⟩, h3⟩ => by
                rw [ht] at h2
                have h4 : c = e := h2
                subst h4
                exact ⟨⟨k1, t, p, n, h1⟩, h3⟩
              clear ht hRk hgap hne htl hC
              go_wp2_with (go_at_call 27; refine (hCb _).mono ?_; rintro e w2 ⟨⟨k1, t1, p1, n1, rfl⟩, hb2⟩; have hr2 := block_below hb2 hS.r; have hlt2 := block_lt hr2; obtain ⟨c0, c1, f0, f1⟩ := in2 hr2)
              refine bodyPost_ret (res19 rfl rfl (block_alloc _ (put2_same hr2))) rfl ?_
              rw [hRb.out]
              exact ⟨⟨none, 0, 0, rfl, World.ownsRow_nil _ _ _ _⟩, ext_alloc (put2_below _ _ (ext_trans hS.bl hb2) (Nat.le_refl _)) _⟩
            | tok k1 t1 n1 =>
              have hsz := tok_size ht
              have hl1 : (s.data.toList.drop k).length = s.size - k := by simp
              rw [hl1] at hsz
              have hRt := scanR_tok hne hgap ht k
              rw [List.drop_drop] at hRt
              rw [hRt, ScanR.pre_pre] at hRk
              have hCt : ∀ u, Calls Tryz.prog 27 #[.string s, .int .i64 k] u fun x w' => x = .returned (.tuple #[tokv k1 ⟨t1.toArray⟩ k, .int .i64 n1, .int .i64 0]) ∧ Below u.heap.size u w' := fun u => (hC u).mono fun x w' ⟨⟨k1, t, p, n, c, h1, h2⟩, h3⟩ => by
                rw [ht] at h2
                obtain ⟨rfl, rfl, rfl, rfl, rfl⟩ := h2
                exact ⟨h1, h3⟩
              have hn1 : ts.length + 1 ≤ maxLen := by unfold maxLen; omega
              have hb1 : (ts.length + 1) * 32 ≤ 140737488355328 := by omega
              replace hRk : Hid _ := hRk
              clear ht hgap hne hRt hl1 hC
              go_wp2_with (first | (go_at_call 27; refine (hCt _).mono ?_; rintro e w2 ⟨rfl, hb2⟩; have hr2 := block_below hb2 hS.r; obtain ⟨c0, c1, f0, f1⟩ := in2 hr2) | (at_builtin; refine Hid.out ?_))
              clear c0 c1 f0 f1 hr2 hCt
              obtain ⟨y, hy⟩ : ∃ y : Tok, y = ⟨k1, t1, k⟩ := ⟨_, rfl⟩
              obtain ⟨W, hW⟩ : ∃ W, (w2.alloc (tbx k1 ⟨t1.toArray⟩ k)).alloc (tbx k1 ⟨t1.toArray⟩ k) = W := ⟨_, rfl⟩
              have hnew : W.heap[w2.heap.size + 1]? = some (tbx y.k y.b (y.a : Nat)) := by
                subst hW hy
                have := alloc_new (w2.alloc (tbx k1 ⟨t1.toArray⟩ k)) (tbx k1 ⟨t1.toArray⟩ k)
                simp only [World.size_alloc] at this
                exact this
              have hSW : SI w (.slice b n d) ts W := by
                subst hW
                exact ((hS.on hb2).on (ext_alloc (Below.refl _ _) _)).on (ext_alloc (Below.refl _ _) _)
              have hszW : w.heap.size + 1 ≤ W.heap.size := block_lt hSW.r
              rw [hW]
              rw [← hy] at hRk
              clear hW hb2 hS hy
              refine Lib.hid ?_
              go_wp2_with (at_builtin; refine wpList_append_lies _ (by rfl) _ _ _ (by rfl) (w.heap.size + 1) 55 i0 _ 3 32 Tryz.underlying47 hi0 hz0 hz1 hz2 rfl (by omega) (.slice b n d) ts.length (flatT ts) (by rfl) hSW.own ⟨w2.heap.size + 1, 0, none⟩ 1 1 (trioT y) (by rfl) (by rfl) (newsT hnew) (by simp [Value.oneCell']) (by omega) hn1 hb1 hszW _ rfl ?_; intro g cap w5 hown1 hgrow hat1 hlt1; have hS5 := hSW.step hown1 hgrow; clear hown1 hgrow hat1 hlt1)
              go_roundw
              case rel => exact ⟨k + n1, _, _, _, ts ++ [y], by omega, by go_num, rfl, hS5, hRk.out, by simp; omega⟩
              case measure => simp [intOf]; omega
        · have hk1' : ¬ (k : Int) + 1 < (s.size : Int) := by omega
          have hgap : gap1 (s.data.toList.drop k) = 0 := by
            rw [hd]; exact gap1_none hn12 (fun h => by have := h.2; rw [List.drop_eq_nil_of_le (by rw [hlen.out]; omega)] at this; cases this)
          clear hd h45 hn12
          have hC := fun u => refToken_any s hs k hlt u
          cases ht : tokR (s.data.toList.drop k) using TokR.byCases with
          | bad e =>
            have hRb : Hid (R = .bad e k) := hRk.trans (by rw [scanR_bad hne hgap ht]; rfl)
            obtain ⟨hne0, _, _⟩ := bad_ne ht
            have hCb : ∀ u, Calls Tryz.prog 27 #[.string s, .int .i64 k] u fun x w' => (∃ k1 t p n, x = .returned (.tuple #[tokv k1 t p, .int .i64 n, .int .i64 e])) ∧ Below u.heap.size u w' := fun u => (hC u).mono fun x w' ⟨⟨k1, t, p, n, c, h1, h2⟩, h3⟩ => by
              rw [ht] at h2
              have h4 : c = e := h2
              subst h4
              exact ⟨⟨k1, t, p, n, h1⟩, h3⟩
            clear ht hRk hgap hne htl hC
            go_wp2_with (go_at_call 27; refine (hCb _).mono ?_; rintro e w2 ⟨⟨k1, t1, p1, n1, rfl⟩, hb2⟩; have hr2 := block_below hb2 hS.r; have hlt2 := block_lt hr2; obtain ⟨c0, c1, f0, f1⟩ := in2 hr2)
            refine bodyPost_ret (res19 rfl rfl (block_alloc _ (put2_same hr2))) rfl ?_
            rw [hRb.out]
            exact ⟨⟨none, 0, 0, rfl, World.ownsRow_nil _ _ _ _⟩, ext_alloc (put2_below _ _ (ext_trans hS.bl hb2) (Nat.le_refl _)) _⟩
          | tok k1 t1 n1 =>
            have hsz := tok_size ht
            have hl1 : (s.data.toList.drop k).length = s.size - k := by simp
            rw [hl1] at hsz
            have hRt := scanR_tok hne hgap ht k
            rw [List.drop_drop] at hRt
            rw [hRt, ScanR.pre_pre] at hRk
            have hCt : ∀ u, Calls Tryz.prog 27 #[.string s, .int .i64 k] u fun x w' => x = .returned (.tuple #[tokv k1 ⟨t1.toArray⟩ k, .int .i64 n1, .int .i64 0]) ∧ Below u.heap.size u w' := fun u => (hC u).mono fun x w' ⟨⟨k1, t, p, n, c, h1, h2⟩, h3⟩ => by
              rw [ht] at h2
              obtain ⟨rfl, rfl, rfl, rfl, rfl⟩ := h2
              exact ⟨h1, h3⟩
            have hn1 : ts.length + 1 ≤ maxLen := by unfold maxLen; omega
            have hb1 : (ts.length + 1) * 32 ≤ 140737488355328 := by omega
            replace hRk : Hid _ := hRk
            clear ht hgap hne hRt hl1 hC
            go_wp2_with (first | (go_at_call 27; refine (hCt _).mono ?_; rintro e w2 ⟨rfl, hb2⟩; have hr2 := block_below hb2 hS.r; obtain ⟨c0, c1, f0, f1⟩ := in2 hr2) | (at_builtin; refine Hid.out ?_))
            clear c0 c1 f0 f1 hr2 hCt
            obtain ⟨y, hy⟩ : ∃ y : Tok, y = ⟨k1, t1, k⟩ := ⟨_, rfl⟩
            obtain ⟨W, hW⟩ : ∃ W, (w2.alloc (tbx k1 ⟨t1.toArray⟩ k)).alloc (tbx k1 ⟨t1.toArray⟩ k) = W := ⟨_, rfl⟩
            have hnew : W.heap[w2.heap.size + 1]? = some (tbx y.k y.b (y.a : Nat)) := by
              subst hW hy
              have := alloc_new (w2.alloc (tbx k1 ⟨t1.toArray⟩ k)) (tbx k1 ⟨t1.toArray⟩ k)
              simp only [World.size_alloc] at this
              exact this
            have hSW : SI w (.slice b n d) ts W := by
              subst hW
              exact ((hS.on hb2).on (ext_alloc (Below.refl _ _) _)).on (ext_alloc (Below.refl _ _) _)
            have hszW : w.heap.size + 1 ≤ W.heap.size := block_lt hSW.r
            rw [hW]
            rw [← hy] at hRk
            clear hW hb2 hS hy
            refine Lib.hid ?_
            go_wp2_with (at_builtin; refine wpList_append_lies _ (by rfl) _ _ _ (by rfl) (w.heap.size + 1) 55 i0 _ 3 32 Tryz.underlying47 hi0 hz0 hz1 hz2 rfl (by omega) (.slice b n d) ts.length (flatT ts) (by rfl) hSW.own ⟨w2.heap.size + 1, 0, none⟩ 1 1 (trioT y) (by rfl) (by rfl) (newsT hnew) (by simp [Value.oneCell']) (by omega) hn1 hb1 hszW _ rfl ?_; intro g cap w5 hown1 hgrow hat1 hlt1; have hS5 := hSW.step hown1 hgrow; clear hown1 hgrow hat1 hlt1)
            go_roundw
            case rel => exact ⟨k + n1, _, _, _, ts ++ [y], by omega, by go_num, rfl, hS5, hRk.out, by simp; omega⟩
            case measure => simp [intOf]; omega
      · have h45' : ((s[k].toNat : Int) == 45) = false := by simp; omega
        have hgap : gap1 (s.data.toList.drop k) = 0 := by
          rw [hd]; exact gap1_none hn12 (fun h => h45 h.1)
        clear hd h45 hn12
        have hC := fun u => refToken_any s hs k hlt u
        cases ht : tokR (s.data.toList.drop k) using TokR.byCases with
        | bad e =>
          have hRb : Hid (R = .bad e k) := hRk.trans (by rw [scanR_bad hne hgap ht]; rfl)
          obtain ⟨hne0, _, _⟩ := bad_ne ht
          have hCb : ∀ u, Calls Tryz.prog 27 #[.string s, .int .i64 k] u fun x w' => (∃ k1 t p n, x = .returned (.tuple #[tokv k1 t p, .int .i64 n, .int .i64 e])) ∧ Below u.heap.size u w' := fun u => (hC u).mono fun x w' ⟨⟨k1, t, p, n, c, h1, h2⟩, h3⟩ => by
            rw [ht] at h2
            have h4 : c = e := h2
            subst h4
            exact ⟨⟨k1, t, p, n, h1⟩, h3⟩
          clear ht hRk hgap hne htl hC
          go_wp2_with (go_at_call 27; refine (hCb _).mono ?_; rintro e w2 ⟨⟨k1, t1, p1, n1, rfl⟩, hb2⟩; have hr2 := block_below hb2 hS.r; have hlt2 := block_lt hr2; obtain ⟨c0, c1, f0, f1⟩ := in2 hr2)
          refine bodyPost_ret (res19 rfl rfl (block_alloc _ (put2_same hr2))) rfl ?_
          rw [hRb.out]
          exact ⟨⟨none, 0, 0, rfl, World.ownsRow_nil _ _ _ _⟩, ext_alloc (put2_below _ _ (ext_trans hS.bl hb2) (Nat.le_refl _)) _⟩
        | tok k1 t1 n1 =>
          have hsz := tok_size ht
          have hl1 : (s.data.toList.drop k).length = s.size - k := by simp
          rw [hl1] at hsz
          have hRt := scanR_tok hne hgap ht k
          rw [List.drop_drop] at hRt
          rw [hRt, ScanR.pre_pre] at hRk
          have hCt : ∀ u, Calls Tryz.prog 27 #[.string s, .int .i64 k] u fun x w' => x = .returned (.tuple #[tokv k1 ⟨t1.toArray⟩ k, .int .i64 n1, .int .i64 0]) ∧ Below u.heap.size u w' := fun u => (hC u).mono fun x w' ⟨⟨k1, t, p, n, c, h1, h2⟩, h3⟩ => by
            rw [ht] at h2
            obtain ⟨rfl, rfl, rfl, rfl, rfl⟩ := h2
            exact ⟨h1, h3⟩
          have hn1 : ts.length + 1 ≤ maxLen := by unfold maxLen; omega
          have hb1 : (ts.length + 1) * 32 ≤ 140737488355328 := by omega
          replace hRk : Hid _ := hRk
          clear ht hgap hne hRt hl1 hC
          go_wp2_with (first | (go_at_call 27; refine (hCt _).mono ?_; rintro e w2 ⟨rfl, hb2⟩; have hr2 := block_below hb2 hS.r; obtain ⟨c0, c1, f0, f1⟩ := in2 hr2) | (at_builtin; refine Hid.out ?_))
          clear c0 c1 f0 f1 hr2 hCt
          obtain ⟨y, hy⟩ : ∃ y : Tok, y = ⟨k1, t1, k⟩ := ⟨_, rfl⟩
          obtain ⟨W, hW⟩ : ∃ W, (w2.alloc (tbx k1 ⟨t1.toArray⟩ k)).alloc (tbx k1 ⟨t1.toArray⟩ k) = W := ⟨_, rfl⟩
          have hnew : W.heap[w2.heap.size + 1]? = some (tbx y.k y.b (y.a : Nat)) := by
            subst hW hy
            have := alloc_new (w2.alloc (tbx k1 ⟨t1.toArray⟩ k)) (tbx k1 ⟨t1.toArray⟩ k)
            simp only [World.size_alloc] at this
            exact this
          have hSW : SI w (.slice b n d) ts W := by
            subst hW
            exact ((hS.on hb2).on (ext_alloc (Below.refl _ _) _)).on (ext_alloc (Below.refl _ _) _)
          have hszW : w.heap.size + 1 ≤ W.heap.size := block_lt hSW.r
          rw [hW]
          rw [← hy] at hRk
          clear hW hb2 hS hy
          refine Lib.hid ?_
          go_wp2_with (at_builtin; refine wpList_append_lies _ (by rfl) _ _ _ (by rfl) (w.heap.size + 1) 55 i0 _ 3 32 Tryz.underlying47 hi0 hz0 hz1 hz2 rfl (by omega) (.slice b n d) ts.length (flatT ts) (by rfl) hSW.own ⟨w2.heap.size + 1, 0, none⟩ 1 1 (trioT y) (by rfl) (by rfl) (newsT hnew) (by simp [Value.oneCell']) (by omega) hn1 hb1 hszW _ rfl ?_; intro g cap w5 hown1 hgrow hat1 hlt1; have hS5 := hSW.step hown1 hgrow; clear hown1 hgrow hat1 hlt1)
          go_roundw
          case rel => exact ⟨k + n1, _, _, _, ts ++ [y], by omega, by go_num, rfl, hS5, hRk.out, by simp; omega⟩
          case measure => simp [intOf]; omega
    · have hk' : ¬ (k : Int) < (s.size : Int) := by omega
      have hRe : Hid (R = .toks ts) := hRk.trans (by rw [List.drop_eq_nil_of_le (by rw [hlen.out]; omega), scanR_nil]; simp [ScanR.pre, ScanR.toks])
      clear hRk
      go_wp2
      refine bodyPost_ret (res19 rfl rfl (put2_same hS.r)) rfl ?_
      rw [hRe.out]
      exact ⟨⟨b, n, d, rfl, hS.out _ _⟩, put2_below _ _ hS.bl (Nat.le_refl _)⟩
end Go.Proofs.YtnnppenlfocgiaaGreatDoor
