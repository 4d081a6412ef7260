/- Walks of the document's own reading of tokens: bytes, rows, numerals, quotes. The document's reader in memory; its text. The document's reader: a word that is here, one that must be. The document's reader: names. The document's reader: the name here; what a method leaves. The document's signs. -/
import Derived.Test.YtbdkiimggggndaaGreatDoorJ11
import Derived.Test.YtbdkiimggggndaaGreatDoorJ10
namespace Go.Proofs.YtbdkiimggggndaaGreatDoor
open Go.RowKit
open Go

set_option maxRecDepth 20000 in
set_option maxHeartbeats 1000000 in
theorem digit_any (x : UInt8) (w : World) : Calls Tryz.prog 67 #[.int .u8 (x.toNat : Int)] w fun e w' => e = .returned (.bool (digB x)) ∧ w' = w := by
  by_cases h1 : (48 : Int) ≤ (x.toNat : Int) <;> by_cases h2 : (x.toNat : Int) ≤ 57
  all_goals
    go_enter Tryz.func67, Tryz.ntmps67
    go_wp2
    go_ret
    exact ⟨ret_bool (by simp [digB]; omega), rfl⟩

set_option maxRecDepth 20000 in
set_option maxHeartbeats 1000000 in
theorem letter_any (x : UInt8) (w : World) : Calls Tryz.prog 66 #[.int .u8 (x.toNat : Int)] w fun e w' => e = .returned (.bool (letB x)) ∧ w' = w := by
  by_cases h1 : x.toNat = 95
  · have h1' : ((x.toNat : Int) == 95) = true := by simp [h1]
    go_enter Tryz.func66, Tryz.ntmps66
    go_wp2
    go_ret
    exact ⟨ret_bool (by simp [letB, h1]), rfl⟩
  have h1' : ((x.toNat : Int) == 95) = false := by simp; omega
  by_cases h2 : (97 : Int) ≤ (x.toNat : Int) <;> by_cases h3 : (x.toNat : Int) ≤ 122 <;> by_cases h4 : (65 : Int) ≤ (x.toNat : Int) <;> by_cases h5 : (x.toNat : Int) ≤ 90
  all_goals first
    | (exfalso; omega)
    | (go_enter Tryz.func66, Tryz.ntmps66
       go_wp2
       go_ret
       exact ⟨ret_bool (by simp [letB, h1]; omega), rfl⟩)

/-- Whether a byte goes on, as the document asks it. -/
theorem drop_get (l : List UInt8) (a n : Nat) : (l.drop a)[n]? = l[a + n]? := by simp

set_option maxRecDepth 20000 in
set_option maxHeartbeats 2000000 in
theorem row_any (s : ByteArray) (hs : s.size ≤ 4000) (a : Nat) (ha : a ≤ s.size) (w : World) :
    Calls Tryz.prog 65 #[.string s, .int .i64 a] w fun e w' => e = .returned (.int .i64 (runN rowB (s.data.toList.drop a) : Nat)) ∧ w' = w := by
  obtain ⟨V, hV⟩ : ∃ V, runN rowB (s.data.toList.drop a) = V := ⟨_, rfl⟩
  rw [hV]
  replace hV : Hid _ := hV
  go_enter Tryz.func65, Tryz.ntmps65
  go_wp2
  go_loop [5] (fun i => ∃ k : Nat, a + k ≤ s.size ∧ i = .int .i64 k ∧ ∀ i d, i < k → (s.data.toList.drop a)[i]? = some d → rowB d = true) (fun i => s.size - (intOf i).toNat)
  case atStart => exact ⟨0, by omega, rfl, fun i d h => by omega⟩
  case round =>
    obtain ⟨k, hk, rfl, hno⟩ := hrel
    by_cases hlt : a + k < s.size
    · have hc : (s.data.toList.drop a)[k]? = some s[a + k] := by
        rw [drop_get]; exact byte_at hlt
      have hT := take_run rowB (s.data.toList.drop a) k s[a + k] hc hno
      rw [hV.out] at hT
      have hL := letter_any s[a + k] w
      have hD := digit_any s[a + k] w
      have hr : rowB s[a + k] = (letB s[a + k] || digB s[a + k]) := rfl
      rw [hr] at hT
      have hlt' : (a : Int) + (k : Int) < (s.size : Int) := by omega
      clear hc
      replace hT : Hid _ := hT
      replace hno : Hid _ := hno
      cases h1 : letB s[a + k]
      · cases h2 : digB s[a + k]
        · rw [h1] at hL
          rw [h2] at hD
          have hp : Hid (V = k) := hT.out.2 (by rw [h1, h2]; rfl)
          clear hT h1 h2
          go_wp2_with (first | (go_at_call 66; refine hL.mono ?_; rintro e w' ⟨rfl, rfl⟩) | (go_at_call 67; refine hD.mono ?_; rintro e w' ⟨rfl, rfl⟩))
          go_ret
          exact ⟨ret_int (by rw [hp.out]), rfl⟩
        · rw [h1] at hL
          rw [h2] at hD
          have hp : Hid (∀ i d, i < k + 1 → (s.data.toList.drop a)[i]? = some d → rowB d = true) := hT.out.1 (by rw [h1, h2]; rfl)
          clear hT h1 h2
          go_wp2_with (first | (go_at_call 66; refine hL.mono ?_; rintro e w' ⟨rfl, rfl⟩) | (go_at_call 67; refine hD.mono ?_; rintro e w' ⟨rfl, rfl⟩))
          go_round
          case rel => exact ⟨k + 1, by omega, by go_num, hp.out⟩
          case measure => simp [intOf]; omega
      · rw [h1] at hL
        have hp : Hid (∀ i d, i < k + 1 → (s.data.toList.drop a)[i]? = some d → rowB d = true) := hT.out.1 (by rw [h1]; rfl)
        clear hT h1
        go_wp2_with (first | (go_at_call 66; refine hL.mono ?_; rintro e w' ⟨rfl, rfl⟩) | (go_at_call 67; refine hD.mono ?_; rintro e w' ⟨rfl, rfl⟩))
        go_round
        case rel => exact ⟨k + 1, by omega, by go_num, hp.out⟩
        case measure => simp [intOf]; omega
    · have hlt' : ¬ (a : Int) + (k : Int) < (s.size : Int) := by omega
      have hp : Hid (V = k) := by
        show V = k
        rw [← hV.out]
        exact runN_eq rowB _ k (by simp; omega) hno (fun c hc => by rw [drop_get, List.getElem?_eq_none (by simp; omega)] at hc; cases hc)
      clear hno
      go_wp2_with fail
      go_ret
      exact ⟨ret_int (by rw [hp.out]), rfl⟩

theorem more_eq : ∀ x y : List UInt8, (!Op.bytesLess x y && !(x == y)) = Op.bytesLess y x
  | [], [] => by simp [Op.bytesLess]
  | [], _ :: _ => by simp [Op.bytesLess]
  | _ :: _, [] => by simp [Op.bytesLess]
  | a :: x, b :: y => by
    have ih := more_eq x y
    rw [Op.bytesLess, Op.bytesLess]
    by_cases h : a = b
    · subst h
      simp only [beq_self_eq_true, Bool.true_and, UInt8.lt_irrefl, decide_false, Bool.false_or, List.cons_beq_cons]
      exact ih
    · have h' : ¬ b = a := fun e => h e.symm
      have e1 : (a == b) = false := by simpa using h
      have e2 : (b == a) = false := by simpa using h'
      have hn : a.toNat ≠ b.toNat := fun e => h (UInt8.toNat_inj.1 e)
      simp only [e1, e2, Bool.false_and, Bool.or_false, List.cons_beq_cons, Bool.not_false, Bool.and_true]
      rw [Bool.eq_iff_iff]
      simp [UInt8.lt_iff_toNat_lt]
      omega

set_option maxRecDepth 20000 in
set_option maxHeartbeats 2000000 in
theorem numeral_any (s : ByteArray) (hs : s.size ≤ 4000) (h0 : 0 < s.size) (w : World) :
    Calls Tryz.prog 68 #[.string s] w fun e w' => e = .returned (.int .i64 (numE s.data.toList)) ∧ w' = w := by
  obtain ⟨V, hV⟩ : ∃ V, numE s.data.toList = V := ⟨_, rfl⟩
  rw [hV]
  replace hV : Hid _ := hV
  go_enter Tryz.func68, Tryz.ntmps68
  go_wp2
  go_loop [3] (fun i => ∃ k : Nat, k ≤ s.size ∧ i = .int .i64 k ∧ ∀ i d, i < k → s.data.toList[i]? = some d → digB d = true) (fun i => s.size - (intOf i).toNat)
  case atStart => exact ⟨0, by omega, rfl, fun i d h => by omega⟩
  case round =>
    obtain ⟨k, hk, rfl, hno⟩ := hrel
    by_cases hlt : k < s.size
    · have hc : s.data.toList[k]? = some s[k] := byte_at hlt
      have hT := take_run digB s.data.toList k s[k] hc hno
      have hD := digit_any s[k] w
      have hlt' : (k : Int) < (s.size : Int) := by omega
      clear hc
      replace hT : Hid _ := hT
      replace hno : Hid _ := hno
      cases h2 : digB s[k]
      · rw [h2] at hD
        have hp : Hid (V = 2) := by
          show V = 2
          rw [← hV.out]
          have := hT.out.2 h2
          unfold numE
          rw [allRunB, if_pos (by simp only [decide_eq_false_iff_not]; rw [this]; simp; omega)]
        clear hT h2
        go_wp2_with (go_at_call 67; refine hD.mono ?_; rintro e w' ⟨rfl, rfl⟩)
        go_ret
        exact ⟨ret_int (by rw [hp.out]), rfl⟩
      · rw [h2] at hD
        have hp : Hid (∀ i d, i < k + 1 → s.data.toList[i]? = some d → digB d = true) := hT.out.1 h2
        clear hT h2
        go_wp2_with (go_at_call 67; refine hD.mono ?_; rintro e w' ⟨rfl, rfl⟩)
        go_round
        case rel => exact ⟨k + 1, by omega, by go_num, hp.out⟩
        case measure => simp [intOf]; omega
    · obtain rfl : k = s.size := by omega
      have hall : s.data.toList.all digB = true := by
        rw [List.all_eq_true]
        intro d hd
        obtain ⟨i, hi, hd⟩ := List.getElem_of_mem hd
        exact hno i d (by simpa using hi) (by rw [List.getElem?_eq_getElem hi, hd])
      obtain ⟨c, r, hl, hc, _⟩ := list_cons s h0
      have hlen : s.data.toList.length = s.size := by simp
      have hhead : s.data.toList.head? = some s[0] := by rw [hl, hc]; rfl
      have hbig := num_big s.data.toList hall
      rw [hlen, hhead] at hbig
      have hnum : V = if 1 < s.size ∧ s[0] = 48 then 2 else if 9223372036854775807 < numV s.data.toList then 6 else 0 := by
        rw [← hV.out]
        unfold numE
        rw [hall, if_neg (by simp), hlen, hhead]
        simp
      clear hno hall hl hc hlen hhead hV
      have hloop : ¬ (s.size : Int) < (s.size : Int) := by omega
      have h0' : (0 : Int) < (s.size : Int) := by omega
      by_cases k1 : 1 < s.size
      · have k1' : (1 : Int) < (s.size : Int) := by omega
        by_cases k2 : s[0] = 48
        · have k2' : ((s[0].toNat : Int) == 48) = true := by rw [k2]; rfl
          have hp : Hid (V = 2) := hnum.trans (if_pos ⟨k1, k2⟩)
          clear hnum hbig k2
          go_wp2
          go_ret
          exact ⟨ret_int (by rw [hp.out]), rfl⟩
        · have k2' : ((s[0].toNat : Int) == 48) = false := by
            have : s[0].toNat ≠ 48 := fun e => k2 (UInt8.toNat_inj.1 e)
            simp; omega
          have hb := hbig (fun h => k2 (by simpa using h.2))
          rw [if_neg (fun h => k2 h.2)] at hnum
          clear hbig k2
          by_cases k3 : 19 < s.size
          · have k3' : (19 : Int) < (s.size : Int) := by omega
            have hp : Hid (V = 6) := hnum.trans (if_pos (hb.2 (.inl k3)))
            clear hnum hb
            go_wp2
            go_ret
            exact ⟨ret_int (by rw [hp.out]), rfl⟩
          · have k3' : ¬ (19 : Int) < (s.size : Int) := by omega
            by_cases k4 : s.size = 19
            · have k4' : ((s.size : Int) == 19) = true := by simp [k4]
              have hm := more_eq s.data.toList mostL
              cases hl : Op.bytesLess mostL s.data.toList
              · have hp : Hid (V = 0) := hnum.trans (if_neg (fun h => by have := hb.1 h; rw [hl] at this; simp at this; omega))
                rw [hl] at hm
                have hm' : (!Op.bytesLess s.toList [57, 50, 50, 51, 51, 55, 50, 48, 51, 54, 56, 53, 52, 55, 55, 53, 56, 48, 55] && !(s.toList == [57, 50, 50, 51, 51, 55, 50, 48, 51, 54, 56, 53, 52, 55, 55, 53, 56, 48, 55])) = false := by
                  rw [ByteArray.toList_eq]
                  exact hm
                clear hnum hb hl hm
                go_wp2
                go_ret
                exact ⟨ret_int (by rw [hp.out]), rfl⟩
              · have hp : Hid (V = 6) := hnum.trans (if_pos (hb.2 (.inr ⟨k4, hl⟩)))
                rw [hl] at hm
                have hm' : (!Op.bytesLess s.toList [57, 50, 50, 51, 51, 55, 50, 48, 51, 54, 56, 53, 52, 55, 55, 53, 56, 48, 55] && !(s.toList == [57, 50, 50, 51, 51, 55, 50, 48, 51, 54, 56, 53, 52, 55, 55, 53, 56, 48, 55])) = true := by
                  rw [ByteArray.toList_eq]
                  exact hm
                clear hnum hb hl hm
                go_wp2
                go_ret
                exact ⟨ret_int (by rw [hp.out]), rfl⟩
            · have k4' : ((s.size : Int) == 19) = false := by simp; omega
              have hp : Hid (V = 0) := hnum.trans (if_neg (fun h => by have := hb.1 h; omega))
              clear hnum hb k4
              go_wp2
              go_ret
              exact ⟨ret_int (by rw [hp.out]), rfl⟩
      · have k1' : ¬ (1 : Int) < (s.size : Int) := by omega
        have k3' : ¬ (19 : Int) < (s.size : Int) := by omega
        have k4' : ((s.size : Int) == 19) = false := by simp; omega
        have hb := hbig (fun h => k1 h.1)
        rw [if_neg (fun h => k1 h.1)] at hnum
        have hp : Hid (V = 0) := hnum.trans (if_neg (fun h => by have := hb.1 h; omega))
        clear hnum hb hbig
        go_wp2
        go_ret
        exact ⟨ret_int (by rw [hp.out]), rfl⟩
end Go.Proofs.YtbdkiimggggndaaGreatDoor
namespace Go.Proofs.YtbdkiimggggndaaGreatDoor
open Go.RowKit
open Go

abbrev dbx (b : Option Addr) (n cap : Nat) (i : Int) (bad : Bool) : Obj := .cells #[.slice b n cap, .int .i64 i, .bool bad] 41
/-- The document's reader: where it is, whether it has failed. -/
structure Dr (W : World) (B : Nat) (ts : List Tok) (i : Nat) (bad : Bool) : Prop where
  box : ∃ b cap, W.heap[B]? = some (dbx b ts.length cap (i : Nat) bad) ∧ TokAt W b ts B ∧ ts.length ≤ cap
  le : i ≤ ts.length
  short : ts.length ≤ 4000
theorem Dr.keep {W W' : World} {B : Nat} {ts : List Tok} {i : Nat} {bad : Bool} {S : Nat → Prop} (h : Dr W B ts i bad) (hk : Keeps S W W') (hs : ∀ g, g ≤ B → ¬ S g) : Dr W' B ts i bad := by
  obtain ⟨b, cap, h1, h2, h4⟩ := h.box
  exact ⟨⟨b, cap, (hk.block _ (block_lt h1) (hs _ (Nat.le_refl _))).trans h1, h2.keep hk (fun g hg => hs g (by omega)), h4⟩, h.le, h.short⟩
theorem Dr.below {W W' : World} {B : Nat} {ts : List Tok} {i : Nat} {bad : Bool} (h : Dr W B ts i bad) (hb : Below W.heap.size W W') : Dr W' B ts i bad := h.keep (Keeps.of_below (S := fun _ => False) hb) (fun _ _ => id)
theorem Dr.lt {W : World} {B : Nat} {ts : List Tok} {i : Nat} {bad : Bool} (h : Dr W B ts i bad) : B < W.heap.size := by
  obtain ⟨b, cap, h1, _⟩ := h.box
  exact block_lt h1
theorem Dr.go {W : World} {B : Nat} {ts : List Tok} {i j : Nat} {bad : Bool} (h : Dr W B ts i bad) (hj : j ≤ ts.length) : Dr (W.setCell ⟨B, 1, none⟩ (.int .i64 (j : Nat))) B ts j bad := by
  obtain ⟨b, cap, h1, h2, h4⟩ := h.box
  have hk : Keeps (fun k => k = B) W (W.setCell ⟨B, 1, none⟩ (.int .i64 (j : Nat))) := (Keeps.refl _ W).set B 1 _ (fun _ => rfl)
  exact ⟨⟨b, cap, set_block _ h1, h2.keep hk (fun g hg e => by omega), h4⟩, hj, h.short⟩
theorem Dr.fail {W : World} {B : Nat} {ts : List Tok} {i : Nat} {bad : Bool} (h : Dr W B ts i bad) (bad' : Bool) : Dr (W.setCell ⟨B, 2, none⟩ (.bool bad')) B ts i bad' := by
  obtain ⟨b, cap, h1, h2, h4⟩ := h.box
  have hk : Keeps (fun k => k = B) W (W.setCell ⟨B, 2, none⟩ (.bool bad')) := (Keeps.refl _ W).set B 2 _ (fun _ => rfl)
  exact ⟨⟨b, cap, set_block _ h1, h2.keep hk (fun g hg e => by omega), h4⟩, h.le, h.short⟩
theorem Dr.put4 {W : World} {B : Nat} {ts : List Tok} {i : Nat} {bad : Bool} (h : Dr W B ts i bad) (C : Nat) (a b c d : Value) (hC : B < C) : Dr (put4 W C a b c d) B ts i bad := h.keep (put4_self W C a b c d) (fun g hg => by omega)
/-- What the walk asks of its cells. -/
structure DrC (W : World) (B : Nat) (b : Option Addr) (n cap : Nat) (i : Int) (bad : Bool) : Prop where
  c0 : W.cell? ⟨B, 0, none⟩ = some (.slice b n cap)
  c1 : W.cell? ⟨B, 1, none⟩ = some (.int .i64 i)
  c2 : W.cell? ⟨B, 2, none⟩ = some (.bool bad)
  f1 : W.frozen? ⟨B, 1, none⟩ = false
  f2 : W.frozen? ⟨B, 2, none⟩ = false
theorem drC {W : World} {B : Nat} {b : Option Addr} {n cap : Nat} {i : Int} {bad : Bool} (h : W.heap[B]? = some (dbx b n cap i bad)) : DrC W B b n cap i bad :=
  ⟨cell_block h rfl, cell_block h rfl, cell_block h rfl, frozen_block h, frozen_block h⟩
theorem Dr.cells {W : World} {B : Nat} {ts : List Tok} {i : Nat} {bad : Bool} (h : Dr W B ts i bad) : ∃ b cap, DrC W B b ts.length cap (i : Nat) bad := by
  obtain ⟨b, cap, h1, _⟩ := h.box
  exact ⟨b, cap, drC h1⟩

/-- The word or sign that it sees. -/
def txd (ts : List Tok) (i : Nat) (bad : Bool) : List UInt8 := if bad then [] else tx (rest ts i)
theorem txd_bad (ts : List Tok) (i : Nat) : txd ts i true = [] := rfl
theorem txd_ok (ts : List Tok) (i : Nat) : txd ts i false = tx (rest ts i) := rfl

set_option maxRecDepth 20000 in
set_option maxHeartbeats 1000000 in
theorem text_bad (B : Nat) (b : Option Addr) (n cap i : Nat) (w : World) (hc : DrC w B b n cap (i : Nat) true) : Calls Tryz.prog 32 #[.pointer (some ⟨B, 0, none⟩)] w fun e w' => e = .returned (sk []) ∧ Below w.heap.size w w' := by
  obtain ⟨c0, c1, c2, f1, f2⟩ := hc
  go_enter Tryz.func32, Tryz.ntmps32
  go_wp2
  go_quiet (fail)
  go_wp2
  go_ret
  exact ⟨rfl, drewN_below (Below.refl _ _)⟩
set_option maxRecDepth 20000 in
set_option maxHeartbeats 1000000 in
theorem text_end (B : Nat) (b : Option Addr) (n cap : Nat) (w : World) (hc : DrC w B b n cap (n : Nat) false) : Calls Tryz.prog 32 #[.pointer (some ⟨B, 0, none⟩)] w fun e w' => e = .returned (sk []) ∧ Below w.heap.size w w' := by
  obtain ⟨c0, c1, c2, f1, f2⟩ := hc
  go_enter Tryz.func32, Tryz.ntmps32
  go_wp2
  go_quiet (fail)
  go_wp2
  go_ret
  exact ⟨rfl, drewN_below (Below.refl _ _)⟩
set_option maxRecDepth 20000 in
set_option maxHeartbeats 4000000 in
theorem text_two (B g n cap i : Nat) (k : Int) (q2 : (k == 2) = true) (w : World) (hc : DrC w B (some ⟨g, 0, none⟩) n cap (i : Nat) false) (hi : i < n) (d0 : w.cell? ⟨g, i * 3, none⟩ = some (.int .i64 k)) : Calls Tryz.prog 32 #[.pointer (some ⟨B, 0, none⟩)] w fun e w' => e = .returned (sk []) ∧ Below w.heap.size w w' := by
  obtain ⟨c0, c1, c2, f1, f2⟩ := hc
  have hi' : (i : Int) < (n : Int) := by omega
  have hge : decide (n ≤ i) = false := decide_eq_false (by omega)
  go_enter Tryz.func32, Tryz.ntmps32
  go_wp2
  go_quiet (fail)
  go_wp2
  go_ret
  exact ⟨rfl, drewN_below (Below.refl _ _)⟩
set_option maxRecDepth 20000 in
set_option maxHeartbeats 4000000 in
theorem text_three (B g n cap i : Nat) (w : World) (hc : DrC w B (some ⟨g, 0, none⟩) n cap (i : Nat) false) (hi : i < n) (d0 : w.cell? ⟨g, i * 3, none⟩ = some (.int .i64 3)) : Calls Tryz.prog 32 #[.pointer (some ⟨B, 0, none⟩)] w fun e w' => e = .returned (sk []) ∧ Below w.heap.size w w' := by
  obtain ⟨c0, c1, c2, f1, f2⟩ := hc
  have hi' : (i : Int) < (n : Int) := by omega
  have hge : decide (n ≤ i) = false := decide_eq_false (by omega)
  go_enter Tryz.func32, Tryz.ntmps32
  go_wp2
  go_quiet (fail)
  go_wp2
  go_ret
  exact ⟨rfl, drewN_below (Below.refl _ _)⟩
set_option maxRecDepth 20000 in
set_option maxHeartbeats 4000000 in
theorem text_oth (B g n cap i : Nat) (k : Int) (q2 : (k == 2) = false) (q3 : (k == 3) = false) (t : ByteArray) (w : World) (hc : DrC w B (some ⟨g, 0, none⟩) n cap (i : Nat) false) (hi : i < n) (d0 : w.cell? ⟨g, i * 3, none⟩ = some (.int .i64 k)) (d1 : w.cell? ⟨g, i * 3 + 1, none⟩ = some (.string t)) : Calls Tryz.prog 32 #[.pointer (some ⟨B, 0, none⟩)] w fun e w' => e = .returned (.string t) ∧ Below w.heap.size w w' := by
  obtain ⟨c0, c1, c2, f1, f2⟩ := hc
  have hi' : (i : Int) < (n : Int) := by omega
  have hge : decide (n ≤ i) = false := decide_eq_false (by omega)
  go_enter Tryz.func32, Tryz.ntmps32
  go_wp2
  go_quiet (fail)
  go_wp2
  go_quiet (fail)
  go_wp2
  go_ret
  exact ⟨rfl, drewN_below (drewN_below (Below.refl _ _))⟩
theorem text_any (B : Nat) (ts : List Tok) (i : Nat) (bad : Bool) (w : World) (hR : Dr w B ts i bad) : Calls Tryz.prog 32 #[.pointer (some ⟨B, 0, none⟩)] w fun e w' => e = .returned (sk (txd ts i bad)) ∧ Below w.heap.size w w' := by
  obtain ⟨b, cap, h1, ht, _⟩ := hR.box
  have hle := hR.le
  have hc := drC h1
  cases bad with
  | true => exact text_bad B b _ cap i w hc
  | false =>
    rw [txd_ok]
    cases hx : ts[i]? with
    | none =>
      have hlt : i = ts.length := by
        have := List.getElem?_eq_none_iff.1 hx
        omega
      subst hlt
      rw [rest_end (Nat.le_refl _)]
      exact text_end B b _ cap w hc
    | some x =>
      rw [rest_cons hx]
      obtain ⟨hi, _⟩ := List.getElem?_eq_some_iff.1 hx
      rcases ht with rfl | ⟨g, rfl, hg, hgw, hcells⟩
      · simp at hx
      have d0 : w.cell? ⟨g, i * 3, none⟩ = some (.int .i64 x.k) := hcells i x hx 0 _ rfl
      have d1 := hcells i x hx 1 _ rfl
      unfold tx
      simp only
      by_cases h2 : x.k = 2
      · rw [if_pos (.inl h2)]
        exact text_two B g _ cap i x.k (by simpa using h2) w hc hi d0
      by_cases h3 : x.k = 3
      · rw [if_pos (.inr h3)]
        rw [h3] at d0
        exact text_three B g _ cap i w hc hi d0
      rw [if_neg (by omega)]
      exact text_oth B g _ cap i x.k (by simpa using h2) (by simpa using h3) _ w hc hi d0 d1
end Go.Proofs.YtbdkiimggggndaaGreatDoor
namespace Go.Proofs.YtbdkiimggggndaaGreatDoor
open Go.RowKit
open Go

set_option maxRecDepth 20000 in
set_option maxHeartbeats 1000000 in
theorem eat_no (B : Nat) (ts : List Tok) (i : Nat) (bad : Bool) (s : List UInt8) (h : ¬ txd ts i bad = s) (w : World) (hR : Dr w B ts i bad) : Calls Tryz.prog 33 #[.pointer (some ⟨B, 0, none⟩), sk s] w fun e w' => e = .returned (.bool false) ∧ Below w.heap.size w w' := by
  have hT := text_any B ts i bad w hR
  obtain ⟨v, hv⟩ : ∃ v, txd ts i bad = v := ⟨_, rfl⟩
  rw [hv] at hT h
  have hne : (v == s) = false := by simpa using h
  clear hv hR
  go_enter Tryz.func33, Tryz.ntmps33
  go_wp2_with (go_at_call 32; refine hT.mono ?_; rintro e w1 ⟨rfl, hb⟩)
  go_ret
  exact ⟨rfl, hb⟩
set_option maxRecDepth 20000 in
set_option maxHeartbeats 1000000 in
theorem eat_yes (B : Nat) (ts : List Tok) (i : Nat) (bad : Bool) (s : List UInt8) (h : txd ts i bad = s) (hi : i < ts.length) (w : World) (hR : Dr w B ts i bad) : Calls Tryz.prog 33 #[.pointer (some ⟨B, 0, none⟩), sk s] w fun e w' => e = .returned (.bool true) ∧ Dr w' B ts (i + 1) bad ∧ Keeps (fun k => k = B) w w' := by
  have hT := text_any B ts i bad w hR
  rw [h] at hT
  have hs := hR.short
  go_enter Tryz.func33, Tryz.ntmps33
  go_wp2_with (go_at_call 32; refine hT.mono ?_; rintro e w1 ⟨rfl, hb⟩; have hR1 := hR.below hb; obtain ⟨b, cap, c0, c1, c2, f1, f2⟩ := hR1.cells)
  go_ret
  exact ⟨rfl, hR1.go (j := i + 1) hi, (Keeps.of_below hb).set B 1 _ (fun _ => rfl)⟩
theorem txd_lt {ts : List Tok} {i : Nat} {bad : Bool} {s : List UInt8} (h : txd ts i bad = s) (hs : s ≠ []) : bad = false ∧ i < ts.length := by
  cases bad with
  | true => exact absurd h.symm hs
  | false => exact ⟨rfl, tx_lt h hs⟩

/-- Where the reading stands: it has failed, or it goes on so. -/
def Fl (ts : List Tok) (Fin : Nat → Prop) (r : PRes) (i : Nat) (bad : Bool) (K : List PT → PR) : Prop := (bad = true ∧ Fin i) ∨ (bad = false ∧ K (rest ts i) = some r)
def FinOK (ts : List Tok) (Fin : Nat → Prop) (r : PRes) : Prop := allV (ts.map pt) ∧ ∀ j, j ≤ ts.length → r = .inl (rest ts j) → Fin j
/-- What a method leaves that gives nothing back. -/
def DU (w : World) (B : Nat) (ts : List Tok) (Fin : Nat → Prop) (r : PRes) (g : List PT → PR) (e : Ending) (w' : World) : Prop := e = .returned (.tuple #[]) ∧ ∃ j bad, Dr w' B ts j bad ∧ Keeps (fun k => k = B) w w' ∧ Fl ts Fin r j bad g
set_option maxRecDepth 20000 in
set_option maxHeartbeats 1000000 in
theorem must_no (B : Nat) (ts : List Tok) (i : Nat) (bad : Bool) (s : List UInt8) (h : ¬ txd ts i bad = s) (w : World) (hR : Dr w B ts i bad) : Calls Tryz.prog 30 #[.pointer (some ⟨B, 0, none⟩), sk s] w fun e w' => e = .returned (.tuple #[]) ∧ Dr w' B ts i true ∧ Keeps (fun k => k = B) w w' := by
  have hT := eat_no B ts i bad s h w hR
  go_enter Tryz.func30, Tryz.ntmps30
  go_wp2_with (go_at_call 33; refine hT.mono ?_; rintro e w1 ⟨rfl, hb⟩; have hR1 := hR.below hb; obtain ⟨b, cap, c0, c1, c2, f1, f2⟩ := hR1.cells)
  go_end0
  exact ⟨rfl, hR1.fail true, (Keeps.of_below hb).set B 2 _ (fun _ => rfl)⟩
set_option maxRecDepth 20000 in
set_option maxHeartbeats 1000000 in
theorem must_yes (B : Nat) (ts : List Tok) (i : Nat) (bad : Bool) (s : List UInt8) (h : txd ts i bad = s) (hi : i < ts.length) (w : World) (hR : Dr w B ts i bad) : Calls Tryz.prog 30 #[.pointer (some ⟨B, 0, none⟩), sk s] w fun e w' => e = .returned (.tuple #[]) ∧ Dr w' B ts (i + 1) bad ∧ Keeps (fun k => k = B) w w' := by
  have hT := eat_yes B ts i bad s h hi w hR
  go_enter Tryz.func30, Tryz.ntmps30
  go_wp2_with (go_at_call 33; refine hT.mono ?_; rintro e w1 ⟨rfl, hR1, hk1⟩)
  go_end0
  exact ⟨rfl, hR1, hk1⟩
theorem must_any {B : Nat} {ts : List Tok} {i : Nat} {bad : Bool} {s : List UInt8} (hs : s ≠ []) {Fin : Nat → Prop} {r : PRes} (hF : FinOK ts Fin r) {g : List PT → PR} (hP : Fl ts Fin r i bad (fun l => need s l g)) (w : World) (hR : Dr w B ts i bad) : Calls Tryz.prog 30 #[.pointer (some ⟨B, 0, none⟩), sk s] w (DU w B ts Fin r g) := by
  by_cases h : txd ts i bad = s
  · obtain ⟨rfl, hi⟩ := txd_lt h hs
    refine (must_yes B ts i false s h hi w hR).mono ?_
    rintro e w1 ⟨rfl, hR1, hk1⟩
    refine ⟨rfl, i + 1, false, hR1, hk1, .inr ⟨rfl, ?_⟩⟩
    rcases hP with ⟨h0, _⟩ | ⟨_, hP⟩
    · cases h0
    · unfold need at hP
      dsimp only at hP
      rw [if_pos (show tx (rest ts i) = s from h), rest_tail] at hP
      exact hP
  · refine (must_no B ts i bad s h w hR).mono ?_
    rintro e w1 ⟨rfl, hR1, hk1⟩
    refine ⟨rfl, i, true, hR1, hk1, .inl ⟨rfl, ?_⟩⟩
    rcases hP with ⟨_, h1⟩ | ⟨rfl, hP⟩
    · exact h1
    · unfold need at hP
      dsimp only at hP
      rw [if_neg (show ¬ tx (rest ts i) = s from h)] at hP
      exact hF.2 i hR.le (Option.some.inj hP).symm
end Go.Proofs.YtbdkiimggggndaaGreatDoor
namespace Go.Proofs.YtbdkiimggggndaaGreatDoor
open Go.RowKit
open Go

def rsvO : Obj := .cells ((reserved.map fun l => Value.string ⟨l.toArray⟩).toArray) 9
set_option maxRecDepth 20000 in
set_option maxHeartbeats 1000000 in
theorem rsv_any (w : World) : Calls Tryz.prog 81 #[] w fun e w' => e = .returned (.slice (some ⟨w.heap.size, 0, none⟩) 18 18) ∧ w' = w.alloc rsvO := by
  go_enter Tryz.func81, Tryz.ntmps81
  go_wp2
  go_ret
  exact ⟨rfl, rfl⟩
theorem name_parts (s : List UInt8) : nameB s = (decide (1 ≤ s.length) && decide (s.length ≤ 16) && (s.head?.map letB).getD false && s.all rowB && !reserved.contains s) := rfl
set_option maxRecDepth 20000 in
set_option maxHeartbeats 2000000 in
theorem rname_any (s : ByteArray) (w : World) : Calls Tryz.prog 47 #[.string s] w fun e w' => e = .returned (.bool (nameB s.data.toList)) ∧ Below w.heap.size w w' := by
  have hl : s.data.toList.length = s.size := by simp
  by_cases h1 : s.size < 1
  · have : nameB s.data.toList = false := by rw [name_parts, hl]; simp; omega
    rw [this]
    have h1' : (s.size : Int) < 1 := by omega
    go_enter Tryz.func47, Tryz.ntmps47
    go_wp2
    go_ret
    exact ⟨rfl, Below.refl _ _⟩
  by_cases h2 : 16 < s.size
  · have : nameB s.data.toList = false := by rw [name_parts, hl]; simp; omega
    rw [this]
    have h1' : ¬ (s.size : Int) < 1 := by omega
    have h2' : (16 : Int) < (s.size : Int) := by omega
    go_enter Tryz.func47, Tryz.ntmps47
    go_wp2
    go_ret
    exact ⟨rfl, Below.refl _ _⟩
  have h0 : 0 < s.size := by omega
  have h1' : ¬ (s.size : Int) < 1 := by omega
  have h2' : ¬ (16 : Int) < (s.size : Int) := by omega
  have h0' : (0 : Int) < (s.size : Int) := by omega
  have hh : s.data.toList.head? = some s[0] := by rw [List.head?_eq_getElem?]; exact byte_at h0
  have hN : nameB s.data.toList = (letB s[0] && s.data.toList.all rowB && !reserved.contains s.data.toList) := by
    rw [name_parts, hl, hh]
    simp only [Option.map_some, Option.getD_some]
    rw [decide_eq_true (by omega : 1 ≤ s.size), decide_eq_true (by omega : s.size ≤ 16)]
    simp
  rw [hN]
  obtain ⟨V, hV⟩ : ∃ V, (letB s[0] && s.data.toList.all rowB && !reserved.contains s.data.toList) = V := ⟨_, rfl⟩
  rw [hV]
  have hL := fun (k : Nat) (hk : k < s.size) => letter_any s[k] w
  have hD := fun (k : Nat) (hk : k < s.size) => digit_any s[k] w
  have hL0 := hL 0 h0
  clear hN hh
  by_cases h3 : letB s[0] = false
  · rw [h3] at hL0
    have : V = false := by rw [← hV, h3]; rfl
    subst this
    clear hV
    go_enter Tryz.func47, Tryz.ntmps47
    go_wp2_with (go_at_call 66; refine hL0.mono ?_; rintro e w' ⟨rfl, hw'⟩; rw [hw']; clear hw')
    go_ret
    exact ⟨rfl, Below.refl _ _⟩
  have h3' : letB s[0] = true := by simpa using h3
  rw [h3'] at hL0
  rw [h3', Bool.true_and] at hV
  replace hV : Hid _ := hV
  replace hl : Hid _ := hl
  go_enter Tryz.func47, Tryz.ntmps47
  go_wp2_with (go_at_call 66; refine hL0.mono ?_; rintro e w' ⟨rfl, hw'⟩; rw [hw']; clear hw')
  go_loop [3] (fun i => ∃ k : Nat, k ≤ s.size ∧ i = .int .i64 k ∧ ∀ j d, j < k → s.data.toList[j]? = some d → rowB d = true) (fun i => s.size - (intOf i).toNat)
  case atStart => exact ⟨0, by omega, rfl, fun i d h => by omega⟩
  case round =>
    obtain ⟨k, hk, rfl, hno⟩ := hrel
    replace hno : Hid _ := hno
    by_cases hlt : k < s.size
    · have hlt' : (k : Int) < (s.size : Int) := by omega
      have hLk := hL k hlt
      have hDk := hD k hlt
      have hc : s.data.toList[k]? = some s[k] := byte_at hlt
      by_cases hrow : rowB s[k] = true
      · have hp : Hid (∀ j d, j < k + 1 → s.data.toList[j]? = some d → rowB d = true) := by
          intro j d hj hd
          by_cases e : j = k
          · subst e; rw [hc] at hd; cases hd; exact hrow
          · exact hno.out j d (by omega) hd
        have hr : rowB s[k] = (letB s[k] || digB s[k]) := rfl
        rw [hr] at hrow
        clear hr hc
        cases e1 : letB s[k] with
        | true =>
          rw [e1] at hLk
          go_wp2_with (go_at_call 66; refine hLk.mono ?_; rintro e w' ⟨rfl, hw'⟩; rw [hw']; clear hw')
          go_round
          case rel => exact ⟨k + 1, by omega, by go_num, hp.out⟩
          case measure => simp [intOf]; omega
        | false =>
          have e2 : digB s[k] = true := by rw [e1] at hrow; simpa using hrow
          rw [e1] at hLk
          rw [e2] at hDk
          go_wp2_with (first | (go_at_call 66; refine hLk.mono ?_; rintro e w' ⟨rfl, hw'⟩; rw [hw']; clear hw') | (go_at_call 67; refine hDk.mono ?_; rintro e w' ⟨rfl, hw'⟩; rw [hw']; clear hw'))
          go_round
          case rel => exact ⟨k + 1, by omega, by go_num, hp.out⟩
          case measure => simp [intOf]; omega
      · have hV0 : V = false := by
          rw [← hV.out]
          have : s.data.toList.all rowB = false := by
            rw [← Bool.not_eq_true, List.all_eq_true]
            intro h
            exact hrow (h _ (List.mem_of_getElem? hc))
          rw [this]; rfl
        have hr : rowB s[k] = (letB s[k] || digB s[k]) := rfl
        rw [hr] at hrow
        have e1 : letB s[k] = false := by cases e : letB s[k] with | true => rw [e] at hrow; simp at hrow | false => rfl
        have e2 : digB s[k] = false := by cases e : digB s[k] with | true => rw [e] at hrow; simp at hrow | false => rfl
        rw [e1] at hLk
        rw [e2] at hDk
        subst hV0
        clear hr hc hrow
        go_wp2_with (first | (go_at_call 66; refine hLk.mono ?_; rintro e w' ⟨rfl, hw'⟩; rw [hw']; clear hw') | (go_at_call 67; refine hDk.mono ?_; rintro e w' ⟨rfl, hw'⟩; rw [hw']; clear hw'))
        go_ret
        exact ⟨rfl, Below.refl _ _⟩
    · have hge : ¬ (k : Int) < (s.size : Int) := by omega
      have hall : s.data.toList.all rowB = true := by
        rw [List.all_eq_true]
        intro x hx
        obtain ⟨j, hj⟩ := List.getElem?_of_mem hx
        exact hno.out j x (by have := (List.getElem?_eq_some_iff.1 hj).1; have := hl.out; omega) hj
      have hV2 : Hid ((!reserved.contains s.data.toList) = V) := by
        have := hV.out
        rw [hall, Bool.true_and] at this
        exact this
      have hRs := rsv_any w
      have hb0 := ext_alloc (Below.refl w.heap.size w) rsvO
      have gR := alloc_new w rsvO
      obtain ⟨W, hW⟩ : ∃ W, w.alloc rsvO = W := ⟨_, rfl⟩
      rw [hW] at hRs hb0 gR
      clear hV hno hall hL hD hW
      go_wp2_with (go_at_call 81; refine hRs.mono ?_; rintro e w' ⟨rfl, hw'⟩; rw [hw']; clear hw')
      go_loop [5] (fun i => ∃ q : Nat, q ≤ 18 ∧ i = .int .i64 q ∧ ∀ j x, j < q → reserved[j]? = some x → ¬ x = s.data.toList) (fun i => 18 - (intOf i).toNat)
      case atStart => exact ⟨0, by omega, rfl, fun i d h => by omega⟩
      case round =>
        obtain ⟨q, hq, rfl, hno⟩ := hrel
        replace hno : Hid _ := hno
        by_cases hlt : q < 18
        · have hlt' : (q : Int) < 18 := by omega
          obtain ⟨x, hx⟩ : ∃ x, reserved[q]? = some x := ⟨_, List.getElem?_eq_getElem (show q < reserved.length from hlt)⟩
          have hcell : W.cell? ⟨w.heap.size, q, none⟩ = some (sk x) := cell_block gR (by simp [hx])
          by_cases hxs : x = s.data.toList
          · have hV0 : V = false := by
              rw [← hV2.out]
              have : reserved.contains s.data.toList = true := List.contains_iff_mem.2 (hxs ▸ List.mem_of_getElem? hx)
              rw [this]; rfl
            subst hV0
            have hcell' : W.cell? ⟨w.heap.size, q, none⟩ = some (.string s) := by rw [hcell, hxs]
            clear hx hxs hcell
            go_wp2
            go_ret
            exact ⟨rfl, hb0⟩
          · have hp : Hid (∀ j y, j < q + 1 → reserved[j]? = some y → ¬ y = s.data.toList) := by
              intro j y hj hy
              by_cases e : j = q
              · subst e; rw [hx] at hy; cases hy; exact hxs
              · exact hno.out j y (by omega) hy
            have hne : ¬ (⟨x.toArray⟩ : ByteArray) = s := fun e => hxs (by rw [← e])
            obtain ⟨t, rfl⟩ : ∃ t : List UInt8, s = ⟨t.toArray⟩ := ⟨s.data.toList, rfl⟩
            have hneb : (x == t) = false := by simpa using hxs
            clear hx hxs
            go_wp2
            go_round
            case rel => exact ⟨q + 1, by omega, by go_num, hp.out⟩
            case measure => simp [intOf]; omega
        · have hge : ¬ (q : Int) < 18 := by omega
          have hV1 : V = true := by
            rw [← hV2.out]
            have : reserved.contains s.data.toList = false := by
              rw [← Bool.not_eq_true, List.contains_iff_mem]
              intro hm
              obtain ⟨j, hj⟩ := List.getElem?_of_mem hm
              exact hno.out j _ (by have : j < 18 := (List.getElem?_eq_some_iff.1 hj).1; omega) hj rfl
            rw [this]; rfl
          subst hV1
          go_wp2
          go_ret
          exact ⟨rfl, hb0⟩
end Go.Proofs.YtbdkiimggggndaaGreatDoor
namespace Go.Proofs.YtbdkiimggggndaaGreatDoor
open Go.RowKit
open Go

set_option maxRecDepth 20000 in
set_option maxHeartbeats 1000000 in
theorem rnm_no (B : Nat) (ts : List Tok) (i : Nat) (bad : Bool) (h : nameB (txd ts i bad) = false) (w : World) (hR : Dr w B ts i bad) : Calls Tryz.prog 31 #[.pointer (some ⟨B, 0, none⟩)] w fun e w' => e = .returned (sk []) ∧ Dr w' B ts i true ∧ Keeps (fun k => k = B) w w' := by
  have hT := text_any B ts i bad w hR
  have hN := fun u => rname_any ⟨(txd ts i bad).toArray⟩ u
  simp only [h] at hN
  obtain ⟨v, hv⟩ : ∃ v, txd ts i bad = v := ⟨_, rfl⟩
  rw [hv] at hT hN
  clear hv h
  go_enter Tryz.func31, Tryz.ntmps31
  go_wp2_with (first | (go_at_call 32; refine hT.mono ?_; rintro e w1 ⟨rfl, hb⟩) | (go_at_call 47; refine (hN _).mono ?_; rintro e w2 ⟨rfl, hb2⟩; have hb3 := ext_trans hb hb2; have hR1 := hR.below hb3; obtain ⟨b, cap, c0, c1, c2, f1, f2⟩ := hR1.cells))
  go_ret
  exact ⟨rfl, hR1.fail true, (Keeps.of_below hb3).set B 2 _ (fun _ => rfl)⟩
set_option maxRecDepth 20000 in
set_option maxHeartbeats 1000000 in
theorem rnm_yes (B : Nat) (ts : List Tok) (i : Nat) (bad : Bool) (h : nameB (txd ts i bad) = true) (hi : i < ts.length) (w : World) (hR : Dr w B ts i bad) : Calls Tryz.prog 31 #[.pointer (some ⟨B, 0, none⟩)] w fun e w' => e = .returned (sk (txd ts i bad)) ∧ Dr w' B ts (i + 1) bad ∧ Keeps (fun k => k = B) w w' := by
  have hT := text_any B ts i bad w hR
  have hN := fun u => rname_any ⟨(txd ts i bad).toArray⟩ u
  simp only [h] at hN
  have hs := hR.short
  obtain ⟨v, hv⟩ : ∃ v, txd ts i bad = v := ⟨_, rfl⟩
  rw [hv] at hT hN ⊢
  clear hv h
  go_enter Tryz.func31, Tryz.ntmps31
  go_wp2_with (first | (go_at_call 32; refine hT.mono ?_; rintro e w1 ⟨rfl, hb⟩) | (go_at_call 47; refine (hN _).mono ?_; rintro e w2 ⟨rfl, hb2⟩; have hb3 := ext_trans hb hb2; have hR1 := hR.below hb3; obtain ⟨b, cap, c0, c1, c2, f1, f2⟩ := hR1.cells))
  go_ret
  exact ⟨rfl, hR1.go (j := i + 1) hi, (Keeps.of_below hb3).set B 1 _ (fun _ => rfl)⟩
/-- What the name here leaves. -/
def DN (w : World) (B : Nat) (ts : List Tok) (Fin : Nat → Prop) (r : PRes) (g : List UInt8 → List PT → PR) (e : Ending) (w' : World) : Prop := ∃ s j bad, e = .returned (sk s) ∧ Dr w' B ts j bad ∧ Keeps (fun k => k = B) w w' ∧ Fl ts Fin r j bad (g s)
theorem rnm_any {B : Nat} {ts : List Tok} {i : Nat} {bad : Bool} {Fin : Nat → Prop} {r : PRes} (hF : FinOK ts Fin r) {g : List UInt8 → List PT → PR} (hP : Fl ts Fin r i bad (fun l => needName l g)) (w : World) (hR : Dr w B ts i bad) : Calls Tryz.prog 31 #[.pointer (some ⟨B, 0, none⟩)] w (DN w B ts Fin r g) := by
  cases h : nameB (txd ts i bad) with
  | true =>
    have hne : txd ts i bad ≠ [] := fun e => by rw [e] at h; exact absurd h (by decide)
    obtain ⟨rfl, hi⟩ := txd_lt rfl hne
    refine (rnm_yes B ts i false h hi w hR).mono ?_
    rintro e w1 ⟨rfl, hR1, hk1⟩
    refine ⟨_, i + 1, false, rfl, hR1, hk1, .inr ⟨rfl, ?_⟩⟩
    rcases hP with ⟨h0, _⟩ | ⟨_, hP⟩
    · cases h0
    · unfold needName at hP
      dsimp only at hP
      rw [if_pos (show nameB (tx (rest ts i)) = true from h), rest_tail] at hP
      exact hP
  | false =>
    refine (rnm_no B ts i bad h w hR).mono ?_
    rintro e w1 ⟨rfl, hR1, hk1⟩
    refine ⟨_, i, true, rfl, hR1, hk1, .inl ⟨rfl, ?_⟩⟩
    rcases hP with ⟨_, h1⟩ | ⟨rfl, hP⟩
    · exact h1
    · unfold needName at hP
      dsimp only at hP
      rw [if_neg (show ¬ nameB (tx (rest ts i)) = true by rw [show tx (rest ts i) = txd ts i false from rfl, h]; decide)] at hP
      exact hF.2 i hR.le (Option.some.inj hP).symm
/-- What a method leaves that gives a node back. -/
def NA (D : Nat → Prop) (w : World) (B : Nat) (ts : List Tok) (Fin : Nat → Prop) (r : PRes) (g : Nd → List PT → PR) (e : Ending) (w' : World) : Prop :=
  ∃ x b cap j bad, e = .returned (ndv x b cap) ∧ NdV (fun q => D q ∨ w.heap.size ≤ q) w' x (ndv x b cap) ∧ Dr w' B ts j bad ∧ Keeps (fun k => k = B) w w' ∧ Fl ts Fin r j bad (g x)
/-- The contracts, by how much is at hand. -/
def DRow (f : Nat) : Prop := ∀ (a : Nat) (r : PRes) (Fin : Nat → Prop) (g : Nd → List PT → PR) (B : Nat) (ts : List Tok) (i : Nat) (w : World), a ≤ 6 → FinOK ts Fin r → Dr w B ts i false → (P f 0 nil0 a (rest ts i)).on g = some r → Calls Tryz.prog 116 #[.pointer (some ⟨B, 0, none⟩), .int .i64 (a : Nat)] w (NA no w B ts Fin r g)
def DUn (f : Nat) : Prop := ∀ (r : PRes) (Fin : Nat → Prop) (g : Nd → List PT → PR) (B : Nat) (ts : List Tok) (i : Nat) (w : World), FinOK ts Fin r → Dr w B ts i false → (P f 1 nil0 0 (rest ts i)).on g = some r → Calls Tryz.prog 143 #[.pointer (some ⟨B, 0, none⟩)] w (NA no w B ts Fin r g)
def DFst (f : Nat) : Prop := ∀ (r : PRes) (Fin : Nat → Prop) (g : Nd → List PT → PR) (B : Nat) (ts : List Tok) (i : Nat) (w : World), FinOK ts Fin r → Dr w B ts i false → (P f 3 nil0 0 (rest ts i)).on g = some r → Calls Tryz.prog 157 #[.pointer (some ⟨B, 0, none⟩)] w (NA no w B ts Fin r g)
def DBeh (f : Nat) : Prop := ∀ (x : Nd) (b : Option Addr) (cap : Nat) (D : Nat → Prop) (r : PRes) (Fin : Nat → Prop) (g : Nd → List PT → PR) (B : Nat) (ts : List Tok) (i : Nat) (w : World), FinOK ts Fin r → Dr w B ts i false → NdV D w x (ndv x b cap) → (∀ q, D q → q ≠ B) → (P f 5 x 0 (rest ts i)).on g = some r → Calls Tryz.prog 117 #[.pointer (some ⟨B, 0, none⟩), ndv x b cap] w (NA D w B ts Fin r g)
end Go.Proofs.YtbdkiimggggndaaGreatDoor
namespace Go.Proofs.YtbdkiimggggndaaGreatDoor
open Go.RowKit
open Go

abbrev sgO : Obj := .cells ((opsL.map fun p => Value.string ⟨p.1.toArray⟩).toArray) 9
abbrev opO : Obj := .cells ((opsL.map fun p => Value.int .i64 p.2.1).toArray) 2
abbrev lvO : Obj := .cells ((opsL.map fun p => Value.int .i64 (p.2.2 : Nat)).toArray) 3
set_option maxRecDepth 20000 in
set_option maxHeartbeats 1000000 in
theorem signs_any (w : World) : Calls Tryz.prog 82 #[] w fun e w' => e = .returned (.slice (some ⟨w.heap.size, 0, none⟩) 11 11) ∧ w' = w.alloc sgO := by
  go_enter Tryz.func82, Tryz.ntmps82
  go_wp2
  go_ret
  exact ⟨rfl, rfl⟩
set_option maxRecDepth 20000 in
set_option maxHeartbeats 1000000 in
theorem ops_any (w : World) : Calls Tryz.prog 83 #[] w fun e w' => ∃ p q, e = .returned (.tuple #[.slice (some ⟨p, 0, none⟩) 11 11, .slice (some ⟨q, 0, none⟩) 11 11]) ∧ w'.heap[p]? = some opO ∧ w'.heap[q]? = some lvO ∧ Below w.heap.size w w' := by
  have h0 := alloc_new w opO
  have h1 := alloc_new (w.alloc opO) lvO
  rw [World.size_alloc] at h1
  go_enter Tryz.func83, Tryz.ntmps83
  go_wp2
  go_ret2
  exact ⟨_, _, rfl, block_alloc _ h0, h1, ext_alloc (ext_alloc (Below.refl _ _) _) _⟩
/-- What it tells. -/
def sgV (t : List UInt8) : Value := match opAt t with
  | some (o, k) => .tuple #[.int .i64 o, .int .i64 (k : Nat)]
  | none => .tuple #[.int .i64 0, .int .i64 (-1)]
theorem opAt_none {t : List UInt8} (h : ∀ (j : Nat) (p : List UInt8 × Int × Nat), opsL[j]? = some p → ¬ p.1 = t) : opAt t = none := by
  unfold opAt
  rw [List.find?_eq_none.2]
  · rfl
  intro p hp
  obtain ⟨j, hj⟩ := List.getElem?_of_mem hp
  simpa using h j p hj
theorem ops_words : ∀ i, i < 11 → ∀ j, j < 11 → (opsL.getD i ([], 0, 0)).1 = (opsL.getD j ([], 0, 0)).1 → i = j := by decide
theorem opAt_some {t : List UInt8} {j : Nat} {p : List UInt8 × Int × Nat} (hj : opsL[j]? = some p) (ht : p.1 = t) : opAt t = some p.2 := by
  unfold opAt
  cases hf : opsL.find? (fun p => p.1 == t) with
  | none =>
    have := List.find?_eq_none.1 hf p (List.mem_of_getElem? hj)
    simp [ht] at this
  | some q =>
    have hq : q.1 = t := by simpa using List.find?_some hf
    obtain ⟨i, hi⟩ := List.getElem?_of_mem (List.mem_of_find?_eq_some hf)
    have e1 : opsL.getD i ([], 0, 0) = q := by simp [List.getD, hi]
    have e2 : opsL.getD j ([], 0, 0) = p := by simp [List.getD, hj]
    have := ops_words i (List.getElem?_eq_some_iff.1 hi).1 j (List.getElem?_eq_some_iff.1 hj).1 (by rw [e1, e2, hq, ht])
    subst this
    rw [hj] at hi
    cases hi
    rfl
set_option maxRecDepth 20000 in
set_option maxHeartbeats 1000000 in
theorem sign_at (t : List UInt8) (w : World) : Calls Tryz.prog 144 #[sk t] w fun e w' => e = .returned (sgV t) ∧ Below w.heap.size w w' := by
  obtain ⟨V, hV⟩ : ∃ V, sgV t = V := ⟨_, rfl⟩
  rw [hV]
  replace hV : Hid _ := hV
  have hS := signs_any w
  have hb0 := ext_alloc (Below.refl w.heap.size w) sgO
  have g0 := alloc_new w sgO
  obtain ⟨W, hW⟩ : ∃ W, w.alloc sgO = W := ⟨_, rfl⟩
  rw [hW] at hS hb0 g0
  clear hW
  have hO := ops_any W
  go_enter Tryz.func144, Tryz.ntmps144
  go_wp2_with (first | (go_at_call 82; refine hS.mono ?_; rintro e w1 ⟨rfl, hw'⟩; rw [hw']; clear hw') | (go_at_call 83; refine hO.mono ?_; rintro e w2 ⟨p, q, rfl, g1, g2, hb2⟩; have g0' := block_below hb2 g0; have hbw := ext_trans hb0 hb2))
  clear hO hS hb0 hb2 g0
  go_loop [7] (fun i => ∃ j : Nat, j ≤ 11 ∧ i = .int .i64 j ∧ ∀ (k : Nat) (p : List UInt8 × Int × Nat), k < j → opsL[k]? = some p → ¬ p.1 = t) (fun i => 11 - (intOf i).toNat)
  case atStart => exact ⟨0, by omega, rfl, fun i d h => by omega⟩
  case round =>
    obtain ⟨j, hj, rfl, hno⟩ := hrel
    replace hno : Hid _ := hno
    by_cases hlt : j < 11
    · have hlt' : (j : Int) < 11 := by omega
      obtain ⟨x, hx⟩ : ∃ x, opsL[j]? = some x := ⟨_, List.getElem?_eq_getElem (show j < opsL.length from hlt)⟩
      have d0 : w2.cell? ⟨w.heap.size, j, none⟩ = some (sk x.1) := cell_block g0' (by simp [hx])
      have d1 : w2.cell? ⟨p, j, none⟩ = some (.int .i64 x.2.1) := cell_block g1 (by simp [hx])
      have d2 : w2.cell? ⟨q, j, none⟩ = some (.int .i64 (x.2.2 : Nat)) := cell_block g2 (by simp [hx])
      by_cases hxt : x.1 = t
      · have hV0 : V = .tuple #[.int .i64 x.2.1, .int .i64 (x.2.2 : Nat)] := by rw [← hV.out]; unfold sgV; rw [opAt_some hx hxt]
        subst hV0
        rw [hxt] at d0
        clear hx hxt
        go_wp2
        go_quiet (fail)
        go_wp2
        go_ret2
        exact ⟨rfl, drewN_below hbw⟩
      · have hp : Hid (∀ (k : Nat) (p : List UInt8 × Int × Nat), k < j + 1 → opsL[k]? = some p → ¬ p.1 = t) := by
          intro k y hk hy
          by_cases e : k = j
          · subst e; rw [hx] at hy; cases hy; exact hxt
          · exact hno.out k y (by omega) hy
        have hneb : (x.1 == t) = false := by simpa using hxt
        obtain ⟨x1, x2⟩ := x
        simp only at d0 hneb
        clear hx hxt d1 d2
        go_wp2
        go_round
        case rel => exact ⟨j + 1, by omega, by go_num, hp.out⟩
        case measure => simp [intOf]; omega
    · have hge : ¬ (j : Int) < 11 := by omega
      have hV1 : V = .tuple #[.int .i64 0, .int .i64 (-1)] := by
        rw [← hV.out]; unfold sgV
        rw [opAt_none (fun k p hk => hno.out k p (by have : k < 11 := (List.getElem?_eq_some_iff.1 hk).1; omega) hk)]
      subst hV1
      go_wp2
      go_ret2
      exact ⟨rfl, hbw⟩
end Go.Proofs.YtbdkiimggggndaaGreatDoor
