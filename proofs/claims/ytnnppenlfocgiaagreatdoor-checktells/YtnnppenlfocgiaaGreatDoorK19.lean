/- The document's reader in memory; its text. The document's reader: a word that is here, one that must be. The document's reader: names. The document's reader: the name here; what a method leaves. The document's signs. The document's reader: one expression more. The document's reader: how closely. -/
import Derived.Test.YtnnppenlfocgiaaGreatDoorK12
import Derived.Test.YtnnppenlfocgiaaGreatDoorK17
import Derived.Test.YtnnppenlfocgiaaGreatDoorK13
import Derived.OwnWalk
import Derived.Deep.LoopGhost
namespace Go.Proofs.YtnnppenlfocgiaaGreatDoor
open Go.RowKit
open Go

abbrev dbx (b : Option Addr) (n cap : Nat) (i : Int) (bad : Bool) : Obj := .cells #[.slice b n cap, .int .i64 i, .bool bad] 52
/-- The document's reader: where it is, whether it has failed. -/
structure Dr (W : World) (B : Nat) (ts : List Tok) (i : Nat) (bad : Bool) : Prop where
  box : ∃ b cap, W.heap[B]? = some (dbx b ts.length cap (i : Nat) bad) ∧ TokAt W b ts B ∧ ts.length ≤ cap
  le : i ≤ ts.length
  short : ts.length ≤ 4000
theorem Dr.keep {W W' : World} {B : Nat} {ts : List Tok} {i : Nat} {bad : Bool} {S : Nat → Prop} (h : Dr W B ts i bad) (hk : Keeps S W W') (hs : ∀ g, g ≤ B → ¬ S g) : Dr W' B ts i bad := by
  obtain ⟨b, cap, h1, h2, h4⟩ := h.box
  exact ⟨⟨b, cap, (hk.block _ (block_lt h1) (hs _ (Nat.le_refl _))).trans h1, h2.keep hk (fun g hg => hs g (by omega)), h4⟩, h.le, h.short⟩
theorem Dr.below {W W' : World} {B : Nat} {ts : List Tok} {i : Nat} {bad : Bool} (h : Dr W B ts i bad) (hb : Below W.heap.size W W') : Dr W' B ts i bad := h.keep (Keeps.of_below (S := fun _ => False) hb) (fun _ _ => id)
theorem Dr.lt {W : World} {B : Nat} {ts : List Tok} {i : Nat} {bad : Bool} (h : Dr W B ts i bad) : B < W.heap.size := by
  obtain ⟨b, cap, h1, _⟩ := h.box
  exact block_lt h1
theorem Dr.go {W : World} {B : Nat} {ts : List Tok} {i j : Nat} {bad : Bool} (h : Dr W B ts i bad) (hj : j ≤ ts.length) : Dr (W.setCell ⟨B, 1, none⟩ (.int .i64 (j : Nat))) B ts j bad := by
  obtain ⟨b, cap, h1, h2, h4⟩ := h.box
  have hk : Keeps (fun k => k = B) W (W.setCell ⟨B, 1, none⟩ (.int .i64 (j : Nat))) := (Keeps.refl _ W).set B 1 _ (fun _ => rfl)
  exact ⟨⟨b, cap, set_block _ h1, h2.keep hk (fun g hg e => by omega), h4⟩, hj, h.short⟩
theorem Dr.fail {W : World} {B : Nat} {ts : List Tok} {i : Nat} {bad : Bool} (h : Dr W B ts i bad) (bad' : Bool) : Dr (W.setCell ⟨B, 2, none⟩ (.bool bad')) B ts i bad' := by
  obtain ⟨b, cap, h1, h2, h4⟩ := h.box
  have hk : Keeps (fun k => k = B) W (W.setCell ⟨B, 2, none⟩ (.bool bad')) := (Keeps.refl _ W).set B 2 _ (fun _ => rfl)
  exact ⟨⟨b, cap, set_block _ h1, h2.keep hk (fun g hg e => by omega), h4⟩, h.le, h.short⟩
theorem Dr.put4 {W : World} {B : Nat} {ts : List Tok} {i : Nat} {bad : Bool} (h : Dr W B ts i bad) (C : Nat) (a b c d : Value) (hC : B < C) : Dr (put4 W C a b c d) B ts i bad := h.keep (put4_self W C a b c d) (fun g hg => by omega)
/-- What the walk asks of its cells. -/
structure DrC (W : World) (B : Nat) (b : Option Addr) (n cap : Nat) (i : Int) (bad : Bool) : Prop where
  c0 : W.cell? ⟨B, 0, none⟩ = some (.slice b n cap)
  c1 : W.cell? ⟨B, 1, none⟩ = some (.int .i64 i)
  c2 : W.cell? ⟨B, 2, none⟩ = some (.bool bad)
  f1 : W.frozen? ⟨B, 1, none⟩ = false
  f2 : W.frozen? ⟨B, 2, none⟩ = false
theorem drC {W : World} {B : Nat} {b : Option Addr} {n cap : Nat} {i : Int} {bad : Bool} (h : W.heap[B]? = some (dbx b n cap i bad)) : DrC W B b n cap i bad :=
  ⟨cell_block h rfl, cell_block h rfl, cell_block h rfl, frozen_block h, frozen_block h⟩
theorem Dr.cells {W : World} {B : Nat} {ts : List Tok} {i : Nat} {bad : Bool} (h : Dr W B ts i bad) : ∃ b cap, DrC W B b ts.length cap (i : Nat) bad := by
  obtain ⟨b, cap, h1, _⟩ := h.box
  exact ⟨b, cap, drC h1⟩

/-- The word or sign that it sees. -/
def txd (ts : List Tok) (i : Nat) (bad : Bool) : List UInt8 := if bad then [] else tx (rest ts i)
theorem txd_ok (ts : List Tok) (i : Nat) : txd ts i false = tx (rest ts i) := rfl

set_option maxRecDepth 20000 in
set_option maxHeartbeats 1000000 in
theorem text_bad (B : Nat) (b : Option Addr) (n cap i : Nat) (w : World) (hc : DrC w B b n cap (i : Nat) true) : Calls Tryz.prog 30 #[.pointer (some ⟨B, 0, none⟩)] w fun e w' => e = .returned (sk []) ∧ Below w.heap.size w w' := by
  obtain ⟨c0, c1, c2, f1, f2⟩ := hc
  go_enter Tryz.func30, Tryz.ntmps30
  go_wp2
  go_quiet (fail)
  go_wp2
  go_ret
  exact ⟨rfl, drewN_below (Below.refl _ _)⟩
set_option maxRecDepth 20000 in
set_option maxHeartbeats 1000000 in
theorem text_end (B : Nat) (b : Option Addr) (n cap : Nat) (w : World) (hc : DrC w B b n cap (n : Nat) false) : Calls Tryz.prog 30 #[.pointer (some ⟨B, 0, none⟩)] w fun e w' => e = .returned (sk []) ∧ Below w.heap.size w w' := by
  obtain ⟨c0, c1, c2, f1, f2⟩ := hc
  go_enter Tryz.func30, Tryz.ntmps30
  go_wp2
  go_quiet (fail)
  go_wp2
  go_ret
  exact ⟨rfl, drewN_below (Below.refl _ _)⟩
set_option maxRecDepth 20000 in
set_option maxHeartbeats 4000000 in
theorem text_two (B g n cap i : Nat) (k : Int) (q2 : (k == 2) = true) (w : World) (hc : DrC w B (some ⟨g, 0, none⟩) n cap (i : Nat) false) (hi : i < n) (d0 : w.cell? ⟨g, i * 3, none⟩ = some (.int .i64 k)) : Calls Tryz.prog 30 #[.pointer (some ⟨B, 0, none⟩)] w fun e w' => e = .returned (sk []) ∧ Below w.heap.size w w' := by
  obtain ⟨c0, c1, c2, f1, f2⟩ := hc
  have hi' : (i : Int) < (n : Int) := by omega
  have hge : decide (n ≤ i) = false := decide_eq_false (by omega)
  go_enter Tryz.func30, Tryz.ntmps30
  go_wp2
  go_quiet (fail)
  go_wp2
  go_ret
  exact ⟨rfl, drewN_below (Below.refl _ _)⟩
set_option maxRecDepth 20000 in
set_option maxHeartbeats 4000000 in
theorem text_three (B g n cap i : Nat) (w : World) (hc : DrC w B (some ⟨g, 0, none⟩) n cap (i : Nat) false) (hi : i < n) (d0 : w.cell? ⟨g, i * 3, none⟩ = some (.int .i64 3)) : Calls Tryz.prog 30 #[.pointer (some ⟨B, 0, none⟩)] w fun e w' => e = .returned (sk []) ∧ Below w.heap.size w w' := by
  obtain ⟨c0, c1, c2, f1, f2⟩ := hc
  have hi' : (i : Int) < (n : Int) := by omega
  have hge : decide (n ≤ i) = false := decide_eq_false (by omega)
  go_enter Tryz.func30, Tryz.ntmps30
  go_wp2
  go_quiet (fail)
  go_wp2
  go_ret
  exact ⟨rfl, drewN_below (Below.refl _ _)⟩
set_option maxRecDepth 20000 in
set_option maxHeartbeats 4000000 in
theorem text_oth (B g n cap i : Nat) (k : Int) (q2 : (k == 2) = false) (q3 : (k == 3) = false) (t : ByteArray) (w : World) (hc : DrC w B (some ⟨g, 0, none⟩) n cap (i : Nat) false) (hi : i < n) (d0 : w.cell? ⟨g, i * 3, none⟩ = some (.int .i64 k)) (d1 : w.cell? ⟨g, i * 3 + 1, none⟩ = some (.string t)) : Calls Tryz.prog 30 #[.pointer (some ⟨B, 0, none⟩)] w fun e w' => e = .returned (.string t) ∧ Below w.heap.size w w' := by
  obtain ⟨c0, c1, c2, f1, f2⟩ := hc
  have hi' : (i : Int) < (n : Int) := by omega
  have hge : decide (n ≤ i) = false := decide_eq_false (by omega)
  go_enter Tryz.func30, Tryz.ntmps30
  go_wp2
  go_quiet (fail)
  go_wp2
  go_quiet (fail)
  go_wp2
  go_ret
  exact ⟨rfl, drewN_below (drewN_below (Below.refl _ _))⟩
theorem text_any (B : Nat) (ts : List Tok) (i : Nat) (bad : Bool) (w : World) (hR : Dr w B ts i bad) : Calls Tryz.prog 30 #[.pointer (some ⟨B, 0, none⟩)] w fun e w' => e = .returned (sk (txd ts i bad)) ∧ Below w.heap.size w w' := by
  obtain ⟨b, cap, h1, ht, _⟩ := hR.box
  have hle := hR.le
  have hc := drC h1
  cases bad with
  | true => exact text_bad B b _ cap i w hc
  | false =>
    rw [txd_ok]
    cases hx : ts[i]? with
    | none =>
      have hlt : i = ts.length := by
        have := List.getElem?_eq_none_iff.1 hx
        omega
      subst hlt
      rw [rest_end (Nat.le_refl _)]
      exact text_end B b _ cap w hc
    | some x =>
      rw [rest_cons hx]
      obtain ⟨hi, _⟩ := List.getElem?_eq_some_iff.1 hx
      rcases ht with rfl | ⟨g, rfl, hg, hgw, hcells⟩
      · simp at hx
      have d0 : w.cell? ⟨g, i * 3, none⟩ = some (.int .i64 x.k) := hcells i x hx 0 _ rfl
      have d1 := hcells i x hx 1 _ rfl
      unfold tx
      simp only
      by_cases h2 : x.k = 2
      · rw [if_pos (.inl h2)]
        exact text_two B g _ cap i x.k (by simpa using h2) w hc hi d0
      by_cases h3 : x.k = 3
      · rw [if_pos (.inr h3)]
        rw [h3] at d0
        exact text_three B g _ cap i w hc hi d0
      rw [if_neg (by omega)]
      exact text_oth B g _ cap i x.k (by simpa using h2) (by simpa using h3) _ w hc hi d0 d1
end Go.Proofs.YtnnppenlfocgiaaGreatDoor
namespace Go.Proofs.YtnnppenlfocgiaaGreatDoor
open Go.RowKit
open Go

set_option maxRecDepth 20000 in
set_option maxHeartbeats 1000000 in
theorem eat_no (B : Nat) (ts : List Tok) (i : Nat) (bad : Bool) (s : List UInt8) (h : ¬ txd ts i bad = s) (w : World) (hR : Dr w B ts i bad) : Calls Tryz.prog 31 #[.pointer (some ⟨B, 0, none⟩), sk s] w fun e w' => e = .returned (.bool false) ∧ Below w.heap.size w w' := by
  have hT := text_any B ts i bad w hR
  obtain ⟨v, hv⟩ : ∃ v, txd ts i bad = v := ⟨_, rfl⟩
  rw [hv] at hT h
  have hne : (v == s) = false := by simpa using h
  clear hv hR
  go_enter Tryz.func31, Tryz.ntmps31
  go_wp2_with (go_at_call 30; refine hT.mono ?_; rintro e w1 ⟨rfl, hb⟩)
  go_ret
  exact ⟨rfl, hb⟩
set_option maxRecDepth 20000 in
set_option maxHeartbeats 1000000 in
theorem eat_yes (B : Nat) (ts : List Tok) (i : Nat) (bad : Bool) (s : List UInt8) (h : txd ts i bad = s) (hi : i < ts.length) (w : World) (hR : Dr w B ts i bad) : Calls Tryz.prog 31 #[.pointer (some ⟨B, 0, none⟩), sk s] w fun e w' => e = .returned (.bool true) ∧ Dr w' B ts (i + 1) bad ∧ Keeps (fun k => k = B) w w' := by
  have hT := text_any B ts i bad w hR
  rw [h] at hT
  have hs := hR.short
  go_enter Tryz.func31, Tryz.ntmps31
  go_wp2_with (go_at_call 30; refine hT.mono ?_; rintro e w1 ⟨rfl, hb⟩; have hR1 := hR.below hb; obtain ⟨b, cap, c0, c1, c2, f1, f2⟩ := hR1.cells)
  go_ret
  exact ⟨rfl, hR1.go (j := i + 1) hi, (Keeps.of_below hb).set B 1 _ (fun _ => rfl)⟩
theorem txd_lt {ts : List Tok} {i : Nat} {bad : Bool} {s : List UInt8} (h : txd ts i bad = s) (hs : s ≠ []) : bad = false ∧ i < ts.length := by
  cases bad with
  | true => exact absurd h.symm hs
  | false => exact ⟨rfl, tx_lt h hs⟩

/-- Where the reading stands: it has failed, or it goes on so. -/
def Fl (ts : List Tok) (Fin : Nat → Prop) (r : PRes) (i : Nat) (bad : Bool) (K : List PT → PR) : Prop := (bad = true ∧ Fin i) ∨ (bad = false ∧ K (rest ts i) = some r)
def FinOK (ts : List Tok) (Fin : Nat → Prop) (r : PRes) : Prop := allV (ts.map pt) ∧ ∀ j, j ≤ ts.length → r = .inl (rest ts j) → Fin j
/-- What a method leaves that gives nothing back. -/
def DU (w : World) (B : Nat) (ts : List Tok) (Fin : Nat → Prop) (r : PRes) (g : List PT → PR) (e : Ending) (w' : World) : Prop := e = .returned (.tuple #[]) ∧ ∃ j bad, Dr w' B ts j bad ∧ Keeps (fun k => k = B) w w' ∧ Fl ts Fin r j bad g
set_option maxRecDepth 20000 in
set_option maxHeartbeats 1000000 in
theorem must_no (B : Nat) (ts : List Tok) (i : Nat) (bad : Bool) (s : List UInt8) (h : ¬ txd ts i bad = s) (w : World) (hR : Dr w B ts i bad) : Calls Tryz.prog 28 #[.pointer (some ⟨B, 0, none⟩), sk s] w fun e w' => e = .returned (.tuple #[]) ∧ Dr w' B ts i true ∧ Keeps (fun k => k = B) w w' := by
  have hT := eat_no B ts i bad s h w hR
  go_enter Tryz.func28, Tryz.ntmps28
  go_wp2_with (go_at_call 31; refine hT.mono ?_; rintro e w1 ⟨rfl, hb⟩; have hR1 := hR.below hb; obtain ⟨b, cap, c0, c1, c2, f1, f2⟩ := hR1.cells)
  go_end0
  exact ⟨rfl, hR1.fail true, (Keeps.of_below hb).set B 2 _ (fun _ => rfl)⟩
set_option maxRecDepth 20000 in
set_option maxHeartbeats 1000000 in
theorem must_yes (B : Nat) (ts : List Tok) (i : Nat) (bad : Bool) (s : List UInt8) (h : txd ts i bad = s) (hi : i < ts.length) (w : World) (hR : Dr w B ts i bad) : Calls Tryz.prog 28 #[.pointer (some ⟨B, 0, none⟩), sk s] w fun e w' => e = .returned (.tuple #[]) ∧ Dr w' B ts (i + 1) bad ∧ Keeps (fun k => k = B) w w' := by
  have hT := eat_yes B ts i bad s h hi w hR
  go_enter Tryz.func28, Tryz.ntmps28
  go_wp2_with (go_at_call 31; refine hT.mono ?_; rintro e w1 ⟨rfl, hR1, hk1⟩)
  go_end0
  exact ⟨rfl, hR1, hk1⟩
theorem must_any {B : Nat} {ts : List Tok} {i : Nat} {bad : Bool} {s : List UInt8} (hs : s ≠ []) {Fin : Nat → Prop} {r : PRes} (hF : FinOK ts Fin r) {g : List PT → PR} (hP : Fl ts Fin r i bad (fun l => need s l g)) (w : World) (hR : Dr w B ts i bad) : Calls Tryz.prog 28 #[.pointer (some ⟨B, 0, none⟩), sk s] w (DU w B ts Fin r g) := by
  by_cases h : txd ts i bad = s
  · obtain ⟨rfl, hi⟩ := txd_lt h hs
    refine (must_yes B ts i false s h hi w hR).mono ?_
    rintro e w1 ⟨rfl, hR1, hk1⟩
    refine ⟨rfl, i + 1, false, hR1, hk1, .inr ⟨rfl, ?_⟩⟩
    rcases hP with ⟨h0, _⟩ | ⟨_, hP⟩
    · cases h0
    · unfold need at hP
      dsimp only at hP
      rw [if_pos (show tx (rest ts i) = s from h), rest_tail] at hP
      exact hP
  · refine (must_no B ts i bad s h w hR).mono ?_
    rintro e w1 ⟨rfl, hR1, hk1⟩
    refine ⟨rfl, i, true, hR1, hk1, .inl ⟨rfl, ?_⟩⟩
    rcases hP with ⟨_, h1⟩ | ⟨rfl, hP⟩
    · exact h1
    · unfold need at hP
      dsimp only at hP
      rw [if_neg (show ¬ tx (rest ts i) = s from h)] at hP
      exact hF.2 i hR.le (Option.some.inj hP).symm
end Go.Proofs.YtnnppenlfocgiaaGreatDoor
namespace Go.Proofs.YtnnppenlfocgiaaGreatDoor
open Go.RowKit
open Go

def rsvO : Obj := .cells ((reserved.map fun l => Value.string ⟨l.toArray⟩).toArray) 9
set_option maxRecDepth 20000 in
set_option maxHeartbeats 1000000 in
theorem rsv_any (w : World) : Calls Tryz.prog 70 #[] w fun e w' => e = .returned (.slice (some ⟨w.heap.size, 0, none⟩) 18 18) ∧ w' = w.alloc rsvO := by
  go_enter Tryz.func70, Tryz.ntmps70
  go_wp2
  go_ret
  exact ⟨rfl, rfl⟩
theorem name_parts (s : List UInt8) : nameB s = (decide (1 ≤ s.length) && decide (s.length ≤ 16) && (s.head?.map letB).getD false && s.all rowB && !reserved.contains s) := rfl
set_option maxRecDepth 20000 in
set_option maxHeartbeats 2000000 in
theorem rname_any (s : ByteArray) (w : World) : Calls Tryz.prog 52 #[.string s] w fun e w' => e = .returned (.bool (nameB s.data.toList)) ∧ Below w.heap.size w w' := by
  have hl : s.data.toList.length = s.size := by simp
  by_cases h1 : s.size < 1
  · have : nameB s.data.toList = false := by rw [name_parts, hl]; simp; omega
    rw [this]
    have h1' : (s.size : Int) < 1 := by omega
    go_enter Tryz.func52, Tryz.ntmps52
    go_wp2
    go_ret
    exact ⟨rfl, Below.refl _ _⟩
  by_cases h2 : 16 < s.size
  · have : nameB s.data.toList = false := by rw [name_parts, hl]; simp; omega
    rw [this]
    have h1' : ¬ (s.size : Int) < 1 := by omega
    have h2' : (16 : Int) < (s.size : Int) := by omega
    go_enter Tryz.func52, Tryz.ntmps52
    go_wp2
    go_ret
    exact ⟨rfl, Below.refl _ _⟩
  have h0 : 0 < s.size := by omega
  have h1' : ¬ (s.size : Int) < 1 := by omega
  have h2' : ¬ (16 : Int) < (s.size : Int) := by omega
  have h0' : (0 : Int) < (s.size : Int) := by omega
  have hh : s.data.toList.head? = some s[0] := by rw [List.head?_eq_getElem?]; exact byte_at h0
  have hN : nameB s.data.toList = (letB s[0] && s.data.toList.all rowB && !reserved.contains s.data.toList) := by
    rw [name_parts, hl, hh]
    simp only [Option.map_some, Option.getD_some]
    rw [decide_eq_true (by omega : 1 ≤ s.size), decide_eq_true (by omega : s.size ≤ 16)]
    simp
  rw [hN]
  obtain ⟨V, hV⟩ : ∃ V, (letB s[0] && s.data.toList.all rowB && !reserved.contains s.data.toList) = V := ⟨_, rfl⟩
  rw [hV]
  have hL := fun (k : Nat) (hk : k < s.size) => letter_any s[k] w
  have hD := fun (k : Nat) (hk : k < s.size) => digit_any s[k] w
  have hL0 := hL 0 h0
  clear hN hh
  by_cases h3 : letB s[0] = false
  · rw [h3] at hL0
    have : V = false := by rw [← hV, h3]; rfl
    subst this
    clear hV
    go_enter Tryz.func52, Tryz.ntmps52
    go_wp2_with (go_at_call 47; refine hL0.mono ?_; rintro e w' ⟨rfl, hw'⟩; rw [hw']; clear hw')
    go_ret
    exact ⟨rfl, Below.refl _ _⟩
  have h3' : letB s[0] = true := by simpa using h3
  rw [h3'] at hL0
  rw [h3', Bool.true_and] at hV
  replace hV : Hid _ := hV
  replace hl : Hid _ := hl
  go_enter Tryz.func52, Tryz.ntmps52
  go_wp2_with (go_at_call 47; refine hL0.mono ?_; rintro e w' ⟨rfl, hw'⟩; rw [hw']; clear hw')
  go_loop [3] (fun i => ∃ k : Nat, k ≤ s.size ∧ i = .int .i64 k ∧ ∀ j d, j < k → s.data.toList[j]? = some d → rowB d = true) (fun i => s.size - (intOf i).toNat)
  case atStart => exact ⟨0, by omega, rfl, fun i d h => by omega⟩
  case round =>
    obtain ⟨k, hk, rfl, hno⟩ := hrel
    replace hno : Hid _ := hno
    by_cases hlt : k < s.size
    · have hlt' : (k : Int) < (s.size : Int) := by omega
      have hLk := hL k hlt
      have hDk := hD k hlt
      have hc : s.data.toList[k]? = some s[k] := byte_at hlt
      by_cases hrow : rowB s[k] = true
      · have hp : Hid (∀ j d, j < k + 1 → s.data.toList[j]? = some d → rowB d = true) := by
          intro j d hj hd
          by_cases e : j = k
          · subst e; rw [hc] at hd; cases hd; exact hrow
          · exact hno.out j d (by omega) hd
        have hr : rowB s[k] = (letB s[k] || digB s[k]) := rfl
        rw [hr] at hrow
        clear hr hc
        cases e1 : letB s[k] with
        | true =>
          rw [e1] at hLk
          go_wp2_with (go_at_call 47; refine hLk.mono ?_; rintro e w' ⟨rfl, hw'⟩; rw [hw']; clear hw')
          go_round
          case rel => exact ⟨k + 1, by omega, by go_num, hp.out⟩
          case measure => simp [intOf]; omega
        | false =>
          have e2 : digB s[k] = true := by rw [e1] at hrow; simpa using hrow
          rw [e1] at hLk
          rw [e2] at hDk
          go_wp2_with (first | (go_at_call 47; refine hLk.mono ?_; rintro e w' ⟨rfl, hw'⟩; rw [hw']; clear hw') | (go_at_call 48; refine hDk.mono ?_; rintro e w' ⟨rfl, hw'⟩; rw [hw']; clear hw'))
          go_round
          case rel => exact ⟨k + 1, by omega, by go_num, hp.out⟩
          case measure => simp [intOf]; omega
      · have hV0 : V = false := by
          rw [← hV.out]
          have : s.data.toList.all rowB = false := by
            rw [← Bool.not_eq_true, List.all_eq_true]
            intro h
            exact hrow (h _ (List.mem_of_getElem? hc))
          rw [this]; rfl
        have hr : rowB s[k] = (letB s[k] || digB s[k]) := rfl
        rw [hr] at hrow
        have e1 : letB s[k] = false := by cases e : letB s[k] with | true => rw [e] at hrow; simp at hrow | false => rfl
        have e2 : digB s[k] = false := by cases e : digB s[k] with | true => rw [e] at hrow; simp at hrow | false => rfl
        rw [e1] at hLk
        rw [e2] at hDk
        subst hV0
        clear hr hc hrow
        go_wp2_with (first | (go_at_call 47; refine hLk.mono ?_; rintro e w' ⟨rfl, hw'⟩; rw [hw']; clear hw') | (go_at_call 48; refine hDk.mono ?_; rintro e w' ⟨rfl, hw'⟩; rw [hw']; clear hw'))
        go_ret
        exact ⟨rfl, Below.refl _ _⟩
    · have hge : ¬ (k : Int) < (s.size : Int) := by omega
      have hall : s.data.toList.all rowB = true := by
        rw [List.all_eq_true]
        intro x hx
        obtain ⟨j, hj⟩ := List.getElem?_of_mem hx
        exact hno.out j x (by have := (List.getElem?_eq_some_iff.1 hj).1; have := hl.out; omega) hj
      have hV2 : Hid ((!reserved.contains s.data.toList) = V) := by
        have := hV.out
        rw [hall, Bool.true_and] at this
        exact this
      have hRs := rsv_any w
      have hb0 := ext_alloc (Below.refl w.heap.size w) rsvO
      have gR := alloc_new w rsvO
      obtain ⟨W, hW⟩ : ∃ W, w.alloc rsvO = W := ⟨_, rfl⟩
      rw [hW] at hRs hb0 gR
      clear hV hno hall hL hD hW
      go_wp2_with (go_at_call 70; refine hRs.mono ?_; rintro e w' ⟨rfl, hw'⟩; rw [hw']; clear hw')
      go_loop [5] (fun i => ∃ q : Nat, q ≤ 18 ∧ i = .int .i64 q ∧ ∀ j x, j < q → reserved[j]? = some x → ¬ x = s.data.toList) (fun i => 18 - (intOf i).toNat)
      case atStart => exact ⟨0, by omega, rfl, fun i d h => by omega⟩
      case round =>
        obtain ⟨q, hq, rfl, hno⟩ := hrel
        replace hno : Hid _ := hno
        by_cases hlt : q < 18
        · have hlt' : (q : Int) < 18 := by omega
          obtain ⟨x, hx⟩ : ∃ x, reserved[q]? = some x := ⟨_, List.getElem?_eq_getElem (show q < reserved.length from hlt)⟩
          have hcell : W.cell? ⟨w.heap.size, q, none⟩ = some (sk x) := cell_block gR (by simp [hx])
          by_cases hxs : x = s.data.toList
          · have hV0 : V = false := by
              rw [← hV2.out]
              have : reserved.contains s.data.toList = true := List.contains_iff_mem.2 (hxs ▸ List.mem_of_getElem? hx)
              rw [this]; rfl
            subst hV0
            have hcell' : W.cell? ⟨w.heap.size, q, none⟩ = some (.string s) := by rw [hcell, hxs]
            clear hx hxs hcell
            go_wp2
            go_ret
            exact ⟨rfl, hb0⟩
          · have hp : Hid (∀ j y, j < q + 1 → reserved[j]? = some y → ¬ y = s.data.toList) := by
              intro j y hj hy
              by_cases e : j = q
              · subst e; rw [hx] at hy; cases hy; exact hxs
              · exact hno.out j y (by omega) hy
            have hne : ¬ (⟨x.toArray⟩ : ByteArray) = s := fun e => hxs (by rw [← e])
            obtain ⟨t, rfl⟩ : ∃ t : List UInt8, s = ⟨t.toArray⟩ := ⟨s.data.toList, rfl⟩
            have hneb : (x == t) = false := by simpa using hxs
            clear hx hxs
            go_wp2
            go_round
            case rel => exact ⟨q + 1, by omega, by go_num, hp.out⟩
            case measure => simp [intOf]; omega
        · have hge : ¬ (q : Int) < 18 := by omega
          have hV1 : V = true := by
            rw [← hV2.out]
            have : reserved.contains s.data.toList = false := by
              rw [← Bool.not_eq_true, List.contains_iff_mem]
              intro hm
              obtain ⟨j, hj⟩ := List.getElem?_of_mem hm
              exact hno.out j _ (by have : j < 18 := (List.getElem?_eq_some_iff.1 hj).1; omega) hj rfl
            rw [this]; rfl
          subst hV1
          go_wp2
          go_ret
          exact ⟨rfl, hb0⟩
end Go.Proofs.YtnnppenlfocgiaaGreatDoor
namespace Go.Proofs.YtnnppenlfocgiaaGreatDoor
open Go.RowKit
open Go

set_option maxRecDepth 20000 in
set_option maxHeartbeats 1000000 in
theorem rnm_no (B : Nat) (ts : List Tok) (i : Nat) (bad : Bool) (h : nameB (txd ts i bad) = false) (w : World) (hR : Dr w B ts i bad) : Calls Tryz.prog 29 #[.pointer (some ⟨B, 0, none⟩)] w fun e w' => e = .returned (sk []) ∧ Dr w' B ts i true ∧ Keeps (fun k => k = B) w w' := by
  have hT := text_any B ts i bad w hR
  have hN := fun u => rname_any ⟨(txd ts i bad).toArray⟩ u
  simp only [h] at hN
  obtain ⟨v, hv⟩ : ∃ v, txd ts i bad = v := ⟨_, rfl⟩
  rw [hv] at hT hN
  clear hv h
  go_enter Tryz.func29, Tryz.ntmps29
  go_wp2_with (first | (go_at_call 30; refine hT.mono ?_; rintro e w1 ⟨rfl, hb⟩) | (go_at_call 52; refine (hN _).mono ?_; rintro e w2 ⟨rfl, hb2⟩; have hb3 := ext_trans hb hb2; have hR1 := hR.below hb3; obtain ⟨b, cap, c0, c1, c2, f1, f2⟩ := hR1.cells))
  go_ret
  exact ⟨rfl, hR1.fail true, (Keeps.of_below hb3).set B 2 _ (fun _ => rfl)⟩
set_option maxRecDepth 20000 in
set_option maxHeartbeats 1000000 in
theorem rnm_yes (B : Nat) (ts : List Tok) (i : Nat) (bad : Bool) (h : nameB (txd ts i bad) = true) (hi : i < ts.length) (w : World) (hR : Dr w B ts i bad) : Calls Tryz.prog 29 #[.pointer (some ⟨B, 0, none⟩)] w fun e w' => e = .returned (sk (txd ts i bad)) ∧ Dr w' B ts (i + 1) bad ∧ Keeps (fun k => k = B) w w' := by
  have hT := text_any B ts i bad w hR
  have hN := fun u => rname_any ⟨(txd ts i bad).toArray⟩ u
  simp only [h] at hN
  have hs := hR.short
  obtain ⟨v, hv⟩ : ∃ v, txd ts i bad = v := ⟨_, rfl⟩
  rw [hv] at hT hN ⊢
  clear hv h
  go_enter Tryz.func29, Tryz.ntmps29
  go_wp2_with (first | (go_at_call 30; refine hT.mono ?_; rintro e w1 ⟨rfl, hb⟩) | (go_at_call 52; refine (hN _).mono ?_; rintro e w2 ⟨rfl, hb2⟩; have hb3 := ext_trans hb hb2; have hR1 := hR.below hb3; obtain ⟨b, cap, c0, c1, c2, f1, f2⟩ := hR1.cells))
  go_ret
  exact ⟨rfl, hR1.go (j := i + 1) hi, (Keeps.of_below hb3).set B 1 _ (fun _ => rfl)⟩
/-- What the name here leaves. -/
def DN (w : World) (B : Nat) (ts : List Tok) (Fin : Nat → Prop) (r : PRes) (g : List UInt8 → List PT → PR) (e : Ending) (w' : World) : Prop := ∃ s j bad, e = .returned (sk s) ∧ Dr w' B ts j bad ∧ Keeps (fun k => k = B) w w' ∧ Fl ts Fin r j bad (g s)
theorem rnm_any {B : Nat} {ts : List Tok} {i : Nat} {bad : Bool} {Fin : Nat → Prop} {r : PRes} (hF : FinOK ts Fin r) {g : List UInt8 → List PT → PR} (hP : Fl ts Fin r i bad (fun l => needName l g)) (w : World) (hR : Dr w B ts i bad) : Calls Tryz.prog 29 #[.pointer (some ⟨B, 0, none⟩)] w (DN w B ts Fin r g) := by
  cases h : nameB (txd ts i bad) with
  | true =>
    have hne : txd ts i bad ≠ [] := fun e => by rw [e] at h; exact absurd h (by decide)
    obtain ⟨rfl, hi⟩ := txd_lt rfl hne
    refine (rnm_yes B ts i false h hi w hR).mono ?_
    rintro e w1 ⟨rfl, hR1, hk1⟩
    refine ⟨_, i + 1, false, rfl, hR1, hk1, .inr ⟨rfl, ?_⟩⟩
    rcases hP with ⟨h0, _⟩ | ⟨_, hP⟩
    · cases h0
    · unfold needName at hP
      dsimp only at hP
      rw [if_pos (show nameB (tx (rest ts i)) = true from h), rest_tail] at hP
      exact hP
  | false =>
    refine (rnm_no B ts i bad h w hR).mono ?_
    rintro e w1 ⟨rfl, hR1, hk1⟩
    refine ⟨_, i, true, rfl, hR1, hk1, .inl ⟨rfl, ?_⟩⟩
    rcases hP with ⟨_, h1⟩ | ⟨rfl, hP⟩
    · exact h1
    · unfold needName at hP
      dsimp only at hP
      rw [if_neg (show ¬ nameB (tx (rest ts i)) = true by rw [show tx (rest ts i) = txd ts i false from rfl, h]; decide)] at hP
      exact hF.2 i hR.le (Option.some.inj hP).symm
/-- What a method leaves that gives a node back. -/
def NA (D : Nat → Prop) (w : World) (B : Nat) (ts : List Tok) (Fin : Nat → Prop) (r : PRes) (g : Nd → List PT → PR) (e : Ending) (w' : World) : Prop :=
  ∃ x b cap j bad, e = .returned (ndv x b cap) ∧ NdV (fun q => D q ∨ w.heap.size ≤ q) w' x (ndv x b cap) ∧ Dr w' B ts j bad ∧ Keeps (fun k => k = B) w w' ∧ Fl ts Fin r j bad (g x)
/-- The contracts, by how much is at hand. -/
def DRow (f : Nat) : Prop := ∀ (a : Nat) (r : PRes) (Fin : Nat → Prop) (g : Nd → List PT → PR) (B : Nat) (ts : List Tok) (i : Nat) (w : World), a ≤ 6 → FinOK ts Fin r → Dr w B ts i false → (P f 0 nil0 a (rest ts i)).on g = some r → Calls Tryz.prog 88 #[.pointer (some ⟨B, 0, none⟩), .int .i64 (a : Nat)] w (NA no w B ts Fin r g)
def DUn (f : Nat) : Prop := ∀ (r : PRes) (Fin : Nat → Prop) (g : Nd → List PT → PR) (B : Nat) (ts : List Tok) (i : Nat) (w : World), FinOK ts Fin r → Dr w B ts i false → (P f 1 nil0 0 (rest ts i)).on g = some r → Calls Tryz.prog 104 #[.pointer (some ⟨B, 0, none⟩)] w (NA no w B ts Fin r g)
def DFst (f : Nat) : Prop := ∀ (r : PRes) (Fin : Nat → Prop) (g : Nd → List PT → PR) (B : Nat) (ts : List Tok) (i : Nat) (w : World), FinOK ts Fin r → Dr w B ts i false → (P f 3 nil0 0 (rest ts i)).on g = some r → Calls Tryz.prog 123 #[.pointer (some ⟨B, 0, none⟩)] w (NA no w B ts Fin r g)
def DBeh (f : Nat) : Prop := ∀ (x : Nd) (b : Option Addr) (cap : Nat) (D : Nat → Prop) (r : PRes) (Fin : Nat → Prop) (g : Nd → List PT → PR) (B : Nat) (ts : List Tok) (i : Nat) (w : World), FinOK ts Fin r → Dr w B ts i false → NdV D w x (ndv x b cap) → (∀ q, D q → q ≠ B) → (P f 5 x 0 (rest ts i)).on g = some r → Calls Tryz.prog 89 #[.pointer (some ⟨B, 0, none⟩), ndv x b cap] w (NA D w B ts Fin r g)
end Go.Proofs.YtnnppenlfocgiaaGreatDoor
namespace Go.Proofs.YtnnppenlfocgiaaGreatDoor
open Go.RowKit
open Go

abbrev sgO : Obj := .cells ((opsL.map fun p => Value.string ⟨p.1.toArray⟩).toArray) 9
abbrev opO : Obj := .cells ((opsL.map fun p => Value.int .i64 p.2.1).toArray) 2
abbrev lvO : Obj := .cells ((opsL.map fun p => Value.int .i64 (p.2.2 : Nat)).toArray) 3
set_option maxRecDepth 20000 in
set_option maxHeartbeats 1000000 in
theorem signs_any (w : World) : Calls Tryz.prog 124 #[] w fun e w' => e = .returned (.slice (some ⟨w.heap.size, 0, none⟩) 11 11) ∧ w' = w.alloc sgO := by
  go_enter Tryz.func124, Tryz.ntmps124
  go_wp2
  go_ret
  exact ⟨rfl, rfl⟩
set_option maxRecDepth 20000 in
set_option maxHeartbeats 1000000 in
theorem ops_any (w : World) : Calls Tryz.prog 125 #[] w fun e w' => ∃ p q, e = .returned (.tuple #[.slice (some ⟨p, 0, none⟩) 11 11, .slice (some ⟨q, 0, none⟩) 11 11]) ∧ w'.heap[p]? = some opO ∧ w'.heap[q]? = some lvO ∧ Below w.heap.size w w' := by
  have h0 := alloc_new w opO
  have h1 := alloc_new (w.alloc opO) lvO
  rw [World.size_alloc] at h1
  go_enter Tryz.func125, Tryz.ntmps125
  go_wp2
  go_ret2
  exact ⟨_, _, rfl, block_alloc _ h0, h1, ext_alloc (ext_alloc (Below.refl _ _) _) _⟩
/-- What it tells. -/
def sgV (t : List UInt8) : Value := match opAt t with
  | some (o, k) => .tuple #[.int .i64 o, .int .i64 (k : Nat)]
  | none => .tuple #[.int .i64 0, .int .i64 (-1)]
theorem opAt_none {t : List UInt8} (h : ∀ (j : Nat) (p : List UInt8 × Int × Nat), opsL[j]? = some p → ¬ p.1 = t) : opAt t = none := by
  unfold opAt
  rw [List.find?_eq_none.2]
  · rfl
  intro p hp
  obtain ⟨j, hj⟩ := List.getElem?_of_mem hp
  simpa using h j p hj
theorem ops_words : ∀ i, i < 11 → ∀ j, j < 11 → (opsL.getD i ([], 0, 0)).1 = (opsL.getD j ([], 0, 0)).1 → i = j := by decide
theorem opAt_some {t : List UInt8} {j : Nat} {p : List UInt8 × Int × Nat} (hj : opsL[j]? = some p) (ht : p.1 = t) : opAt t = some p.2 := by
  unfold opAt
  cases hf : opsL.find? (fun p => p.1 == t) with
  | none =>
    have := List.find?_eq_none.1 hf p (List.mem_of_getElem? hj)
    simp [ht] at this
  | some q =>
    have hq : q.1 = t := by simpa using List.find?_some hf
    obtain ⟨i, hi⟩ := List.getElem?_of_mem (List.mem_of_find?_eq_some hf)
    have e1 : opsL.getD i ([], 0, 0) = q := by simp [List.getD, hi]
    have e2 : opsL.getD j ([], 0, 0) = p := by simp [List.getD, hj]
    have := ops_words i (List.getElem?_eq_some_iff.1 hi).1 j (List.getElem?_eq_some_iff.1 hj).1 (by rw [e1, e2, hq, ht])
    subst this
    rw [hj] at hi
    cases hi
    rfl
set_option maxRecDepth 20000 in
set_option maxHeartbeats 1000000 in
theorem sign_at (t : List UInt8) (w : World) : Calls Tryz.prog 105 #[sk t] w fun e w' => e = .returned (sgV t) ∧ Below w.heap.size w w' := by
  obtain ⟨V, hV⟩ : ∃ V, sgV t = V := ⟨_, rfl⟩
  rw [hV]
  replace hV : Hid _ := hV
  have hS := signs_any w
  have hb0 := ext_alloc (Below.refl w.heap.size w) sgO
  have g0 := alloc_new w sgO
  obtain ⟨W, hW⟩ : ∃ W, w.alloc sgO = W := ⟨_, rfl⟩
  rw [hW] at hS hb0 g0
  clear hW
  have hO := ops_any W
  go_enter Tryz.func105, Tryz.ntmps105
  go_wp2_with (first | (go_at_call 124; refine hS.mono ?_; rintro e w1 ⟨rfl, hw'⟩; rw [hw']; clear hw') | (go_at_call 125; refine hO.mono ?_; rintro e w2 ⟨p, q, rfl, g1, g2, hb2⟩; have g0' := block_below hb2 g0; have hbw := ext_trans hb0 hb2))
  clear hO hS hb0 hb2 g0
  go_loop [7] (fun i => ∃ j : Nat, j ≤ 11 ∧ i = .int .i64 j ∧ ∀ (k : Nat) (p : List UInt8 × Int × Nat), k < j → opsL[k]? = some p → ¬ p.1 = t) (fun i => 11 - (intOf i).toNat)
  case atStart => exact ⟨0, by omega, rfl, fun i d h => by omega⟩
  case round =>
    obtain ⟨j, hj, rfl, hno⟩ := hrel
    replace hno : Hid _ := hno
    by_cases hlt : j < 11
    · have hlt' : (j : Int) < 11 := by omega
      obtain ⟨x, hx⟩ : ∃ x, opsL[j]? = some x := ⟨_, List.getElem?_eq_getElem (show j < opsL.length from hlt)⟩
      have d0 : w2.cell? ⟨w.heap.size, j, none⟩ = some (sk x.1) := cell_block g0' (by simp [hx])
      have d1 : w2.cell? ⟨p, j, none⟩ = some (.int .i64 x.2.1) := cell_block g1 (by simp [hx])
      have d2 : w2.cell? ⟨q, j, none⟩ = some (.int .i64 (x.2.2 : Nat)) := cell_block g2 (by simp [hx])
      by_cases hxt : x.1 = t
      · have hV0 : V = .tuple #[.int .i64 x.2.1, .int .i64 (x.2.2 : Nat)] := by rw [← hV.out]; unfold sgV; rw [opAt_some hx hxt]
        subst hV0
        rw [hxt] at d0
        clear hx hxt
        go_wp2
        go_quiet (fail)
        go_wp2
        go_ret2
        exact ⟨rfl, drewN_below hbw⟩
      · have hp : Hid (∀ (k : Nat) (p : List UInt8 × Int × Nat), k < j + 1 → opsL[k]? = some p → ¬ p.1 = t) := by
          intro k y hk hy
          by_cases e : k = j
          · subst e; rw [hx] at hy; cases hy; exact hxt
          · exact hno.out k y (by omega) hy
        have hneb : (x.1 == t) = false := by simpa using hxt
        obtain ⟨x1, x2⟩ := x
        simp only at d0 hneb
        clear hx hxt d1 d2
        go_wp2
        go_round
        case rel => exact ⟨j + 1, by omega, by go_num, hp.out⟩
        case measure => simp [intOf]; omega
    · have hge : ¬ (j : Int) < 11 := by omega
      have hV1 : V = .tuple #[.int .i64 0, .int .i64 (-1)] := by
        rw [← hV.out]; unfold sgV
        rw [opAt_none (fun k p hk => hno.out k p (by have : k < 11 := (List.getElem?_eq_some_iff.1 hk).1; omega) hk)]
      subst hV1
      go_wp2
      go_ret2
      exact ⟨rfl, hbw⟩
end Go.Proofs.YtnnppenlfocgiaaGreatDoor
namespace Go.Proofs.YtnnppenlfocgiaaGreatDoor
open Go.RowKit
open Go

/-- What is known of a row that has grown, or has not. -/
structure EX (D : Nat → Prop) (w : World) (B : Nat) (ts : List Tok) (Fin : Nat → Prop) (r : PRes) (g : Nd → List PT → PR) (ks : List Nd) (v : Value) (e : Ending) (w' : World) : Prop where
  out : ∃ ks' b' cap' j bad, e = .returned (.slice b' ks'.length cap') ∧ Row (fun q => D q ∨ w.heap.size ≤ q) w' (.slice b' ks'.length cap') ks' ∧ Dr w' B ts j bad ∧ ks'.length ≤ ks.length + 1 ∧ (∀ q, Value.ownBlock (.slice b' ks'.length cap') = some q → some q = v.ownBlock ∨ w.heap.size ≤ q) ∧ ((bad = true ∧ Fin j) ∨ (bad = false ∧ ∃ x, ks' = ks ++ [x] ∧ g x (rest ts j) = some r))
  K : Keeps (fun q => q = B ∨ some q = v.ownBlock) w w'
set_option maxRecDepth 20000 in
set_option maxHeartbeats 1000000 in
theorem exprs_bad (B : Nat) (ts : List Tok) (i : Nat) (b : Option Addr) (n cap : Nat) (w : World) (hR : Dr w B ts i true) : Calls Tryz.prog 71 #[.pointer (some ⟨B, 0, none⟩), .slice b n cap] w fun e w' => e = .returned (.slice b n cap) ∧ Below w.heap.size w w' := by
  obtain ⟨b', cap', c0, c1, c2, f1, f2⟩ := hR.cells
  go_enter Tryz.func71, Tryz.ntmps71
  go_wp2
  go_ret
  exact ⟨rfl, Below.refl _ _⟩
set_option maxRecDepth 20000 in
set_option maxHeartbeats 2000000 in
theorem exprs_go (f : Nat) (hE : DRow f) (ks : List Nd) (b : Option Addr) (cap : Nat) (D : Nat → Prop) (r : PRes) (Fin : Nat → Prop) (g : Nd → List PT → PR) (B : Nat) (ts : List Tok) (i : Nat) (w : World) (hF : FinOK ts Fin r) (hR : Dr w B ts i false) (hRow : Row D w (.slice b ks.length cap) ks) (hD : ∀ q, D q → q ≠ B) (hO : ∀ q, Value.ownBlock (.slice b ks.length cap) = some q → B < q) (hk : ks.length ≤ 100000) (hP : (P f 0 nil0 0 (rest ts i)).on g = some r) : Calls Tryz.prog 71 #[.pointer (some ⟨B, 0, none⟩), .slice b ks.length cap] w (EX D w B ts Fin r g ks (.slice b ks.length cap)) := by
  obtain ⟨i0, hi0, hz0, hz1, hz2⟩ := info_parts info24
  have hc := hE 0 r Fin g B ts i w (by omega) hF hR hP
  have hBw := hR.lt
  obtain ⟨b', cap', c0, c1, c2, f1, f2⟩ := hR.cells
  have hn1 : ks.length + 1 ≤ maxLen := by unfold maxLen; omega
  have hb1 : (ks.length + 1) * 56 ≤ 140737488355328 := by omega
  clear hE hP
  go_enter Tryz.func71, Tryz.ntmps71
  go_wp2_with (first | (go_at_call 88; refine hc.mono ?_; rintro e w1 ⟨x, bx, cx, j, bad, rfl, hN, hR1, hk1, hFl⟩) | (at_builtin; refine Hid.out ?_))
  have hRow1 : Row (fun q => D q ∨ w.heap.size ≤ q) w1 (.slice b ks.length cap) ks := (hRow.keep hk1 (fun q hq _ e => hD q hq e)).weak (fun q hq _ => .inl hq)
  have hb2 := ext_alloc (ext_alloc (Below.refl w1.heap.size w1) (nbx x bx cx)) (nbx x bx cx)
  have hnew := alloc_new (w1.alloc (nbx x bx cx)) (nbx x bx cx)
  rw [World.size_alloc] at hnew
  have hRow2 := hRow1.below hb2
  have hR2 := hR1.below hb2
  have hN2 := hN.below hb2
  have hk2 := hk1.trans (Keeps.of_below hb2)
  obtain ⟨W, hW⟩ : ∃ W, (w1.alloc (nbx x bx cx)).alloc (nbx x bx cx) = W := ⟨_, rfl⟩
  rw [hW] at hnew hRow2 hR2 hN2 hk2
  obtain ⟨_, _, _, hlt9⟩ := hRow.form
  obtain ⟨xs, ho, hs, hn⟩ := hRow2.own
  have hy : NdV (fun q => (D q ∨ w.heap.size ≤ q) ∧ some q ≠ Value.ownBlock (.slice b ks.length cap)) W x (ndv x bx cx) := hN2.weak (fun q hq _ => ⟨.inr (hq.resolve_left id), fun e => by have := (hlt9 q e.symm).2; have := hq.resolve_left id; omega⟩)
  have hzW : w.heap.size ≤ W.heap.size := hk2.size
  replace hW : (w1.alloc (.cells #[.int .i64 x.k, .string ⟨x.t.toArray⟩, .int .i64 x.n, .slice bx x.kids.length cx] 24)).alloc (.cells #[.int .i64 x.k, .string ⟨x.t.toArray⟩, .int .i64 x.n, .slice bx x.kids.length cx] 24) = W := hW
  rw [hW]
  clear hW hRow1 hb2 hc hN hR1 hk1 c0 c1 c2 f1 f2 hRow hRow2 hN2
  refine Lib.hid ?_
  go_wp2_with (at_builtin; refine wpList_append_lies _ (by rfl) _ _ _ (by rfl) 0 24 i0 _ 4 56 Tryz.underlying22 hi0 hz0 hz1 hz2 rfl (by omega) (.slice b ks.length cap) ks.length _ (by rfl) ho ⟨w1.heap.size + 1, 0, none⟩ 1 1 _ (by rfl) (by rfl) (cells_of x bx cx hnew) (by simp [Value.oneCell']) (by omega) hn1 hb1 (Nat.zero_le _) _ rfl ?_; intro g3 cap3 w5 hown1 hgrow hat1 hlt1)
  have hS5 := Row.snoc ho hs hn hy hown1 hgrow hat1 (fun q hq => .inr (by omega))
  have hkG := Keeps.grown hgrow
  go_ret
  refine ⟨⟨ks ++ [x], some ⟨g3, 0, none⟩, cap3, j, bad, by simp, by simpa using hS5, hR2.keep hkG (fun q hq e => by have := hO q e.symm; omega), by simp, fun q e => ?_, ?_⟩, (hk2.mono (fun q _ e => .inl e)).then hkG (fun q _ e => .inr e)⟩
  · have e3 : g3 = q := by simpa [Value.ownBlock] using e
    subst e3
    rcases hat1 with e | e
    · exact .inl e.symm
    · exact .inr (by omega)
  · rcases hFl with h | ⟨h1, h2⟩
    · exact .inl h
    · exact .inr ⟨h1, x, rfl, h2⟩
theorem exprs_any (f : Nat) (hE : DRow f) (ks : List Nd) (b : Option Addr) (cap : Nat) (D : Nat → Prop) (r : PRes) (Fin : Nat → Prop) (g : Nd → List PT → PR) (B : Nat) (ts : List Tok) (i : Nat) (bad : Bool) (w : World) (hF : FinOK ts Fin r) (hR : Dr w B ts i bad) (hRow : Row D w (.slice b ks.length cap) ks) (hD : ∀ q, D q → q ≠ B) (hO : ∀ q, Value.ownBlock (.slice b ks.length cap) = some q → B < q) (hk : ks.length ≤ 100000) (hP : Fl ts Fin r i bad (fun l => (P f 0 nil0 0 l).on g)) : Calls Tryz.prog 71 #[.pointer (some ⟨B, 0, none⟩), .slice b ks.length cap] w (EX D w B ts Fin r g ks (.slice b ks.length cap)) := by
  rcases hP with ⟨rfl, hFi⟩ | ⟨rfl, hP⟩
  · refine (exprs_bad B ts i b ks.length cap w hR).mono ?_
    rintro e w1 ⟨rfl, hb⟩
    exact ⟨⟨ks, b, cap, i, true, rfl, (hRow.below hb).weak (fun q hq _ => .inl hq), hR.below hb, by omega, fun q e => .inl e.symm, .inl ⟨rfl, hFi⟩⟩, Keeps.of_below hb⟩
  · exact exprs_go f hE ks b cap D r Fin g B ts i w hF hR hRow hD hO hk hP
theorem on_on {x : PR} {h g : Nd → List PT → PR} : (x.on h).on g = x.on (fun n l => (h n l).on g) := by
  unfold PR.on
  match x with
  | none => rfl
  | some (.inl l) => rfl
  | some (.inr (n, l)) => rfl
theorem need_on {s : List UInt8} {l : List PT} {h : List PT → PR} {g : Nd → List PT → PR} : (need s l h).on g = need s l (fun l => (h l).on g) := by
  unfold need
  split
  · rfl
  · rfl
theorem ite_on {c : Prop} [Decidable c] {x y : PR} {g : Nd → List PT → PR} : (if c then x else y).on g = if c then x.on g else y.on g := by
  split
  · rfl
  · rfl
theorem ok_on {n : Nd} {l : List PT} {g : Nd → List PT → PR} : (PR.ok n l).on g = g n l := rfl
end Go.Proofs.YtnnppenlfocgiaaGreatDoor
namespace Go.Proofs.YtnnppenlfocgiaaGreatDoor
open Go.RowKit
open Go

theorem res116 {tm : Array Value} {W : World} {B : Nat} {a b c d : Value} (h : tm[4]?.getD undef = .pointer (some ⟨B, 0, none⟩)) (hx : W.heap[B]? = some (.cells #[a, b, c, d] 24)) : (results Tryz.f88 tm).run Tryz.prog W = .ok (.agg #[a, b, c, d]) W := by
  obtain ⟨c0, c1, c2, c3, _, _, _, _⟩ := in4 hx
  simp [results, Tryz.results88, go_sem, h, c0, c1, c2, c3]
/-- The answer's box is written. -/
theorem na_close {w W : World} {B : Nat} {ts : List Tok} {Fin : Nat → Prop} {r : PRes} {g : Nd → List PT → PR} {x : Nd} {b : Option Addr} {cap j t : Nat} {bad : Bool} {D : Nat → Prop} (hN : NdV (fun q => (D q ∨ w.heap.size ≤ q) ∧ q ≠ t) W x (ndv x b cap)) (hR : Dr W B ts j bad) (hk : Keeps (fun k => k = B) w W) (ht : w.heap.size ≤ t) (hB : B < w.heap.size) (hFl : Fl ts Fin r j bad (g x)) :
    NA D w B ts Fin r g (.returned (ndv x b cap)) (put4 W t (.int .i64 x.k) (sk x.t) (.int .i64 x.n) (.slice b x.kids.length cap)) :=
  ⟨x, b, cap, j, bad, rfl, (hN.put4 _ _ _ _ _ (fun q hq => hq.2)).weak (fun q hq _ => hq.1), hR.put4 _ _ _ _ _ (by omega), put4_keeps hk _ _ _ _ _ ht, hFl⟩
set_option maxRecDepth 20000 in
set_option maxHeartbeats 1000000 in
theorem bound_un (f : Nat) (hU : DUn f) (r : PRes) (Fin : Nat → Prop) (g : Nd → List PT → PR) (B : Nat) (ts : List Tok) (i : Nat) (w : World) (hF : FinOK ts Fin r) (hR : Dr w B ts i false) (hP : (P f 1 nil0 0 (rest ts i)).on g = some r) : Calls Tryz.prog 88 #[.pointer (some ⟨B, 0, none⟩), .int .i64 6] w (NA no w B ts Fin r g) := by
  have hb0 : Below w.heap.size w (w.alloc zbx) := ext_alloc (Below.refl _ _) _
  have h2 := alloc_new w zbx
  have hBw := hR.lt
  have hc := hU r Fin g B ts i _ hF (hR.below hb0) hP
  go_enter Tryz.func88, Tryz.ntmps88
  go_wp2_with (go_at_call 104; refine hc.mono ?_; rintro e w1 ⟨x, b, cap, j, bad, rfl, hN, hR1, hk1, hFl⟩; have g2 := hk1.box h2 (by omega); obtain ⟨c0, c1, c2, c3, f0, f1, f2, f3⟩ := in4 g2)
  refine bodyPost_ret (res116 rfl (put4_same _ _ _ _ g2)) rfl ?_
  exact na_close (hN.weak (fun q hq _ => by simp at hq; exact ⟨.inr (by omega), by omega⟩)) hR1 ((Keeps.of_below hb0).trans hk1) (Nat.le_refl _) hBw hFl
/-- Between two signs. -/
def BndI (f t a : Nat) (w : World) (B : Nat) (ts : List Tok) (Fin : Nat → Prop) (r : PRes) (g : Nd → List PT → PR) (k : Nat) (wr : World) : Prop :=
  ∃ (x : Nd) (b : Option Addr) (cap j : Nat) (bad : Bool), wr.heap[t]? = some (nbx x b cap) ∧ wr.heap[w.heap.size]? = some zbx ∧ NdV (fun q => w.heap.size < q ∧ q ≠ t) wr x (ndv x b cap) ∧ Dr wr B ts j bad ∧ Keeps (fun k => k = B) w wr ∧ k ≤ f ∧ Fl ts Fin r j bad (fun l => (P k 2 x a l).on g)
set_option maxRecDepth 20000 in
set_option maxHeartbeats 2000000 in
theorem bound_ops (f : Nat) (hG : ∀ k, k ≤ f → DRow k) (a : Nat) (ha : a ≤ 5) (r : PRes) (Fin : Nat → Prop) (g : Nd → List PT → PR) (B : Nat) (ts : List Tok) (i : Nat) (w : World) (hF : FinOK ts Fin r) (hR : Dr w B ts i false) (hP : (P f 0 nil0 (a + 1) (rest ts i)).on (fun n l => (P f 2 n a l).on g) = some r) : Calls Tryz.prog 88 #[.pointer (some ⟨B, 0, none⟩), .int .i64 (a : Nat)] w (NA no w B ts Fin r g) := by
  have hb0 : Below w.heap.size w (w.alloc zbx) := ext_alloc (Below.refl _ _) _
  have h2 := alloc_new w zbx
  have hBw := hR.lt
  have hc := hG f (Nat.le_refl _) (a + 1) r Fin _ B ts i _ (by omega) hF (hR.below hb0) hP
  rw [show ((a + 1 : Nat) : Int) = (a : Int) + 1 by omega] at hc
  have ha' : ¬ (5 : Int) < (a : Int) := by omega
  go_enter Tryz.func88, Tryz.ntmps88
  go_wp2_with (go_at_call 88; refine hc.mono ?_; rintro e w1 ⟨x, b, cap, j, bad, rfl, hN, hR1, hk1, hFl⟩; refine Hid.out ?_)
  have g2 := hk1.box h2 (by omega)
  have hz1 := block_lt g2
  have hb1 := ext_alloc (Below.refl w1.heap.size w1) (nbx x b cap)
  have gt := alloc_new w1 (nbx x b cap)
  have hI : BndI f w1.heap.size a w B ts Fin r g f (w1.alloc (nbx x b cap)) := ⟨x, b, cap, j, bad, gt, block_below hb1 g2, (hN.weak (fun q hq hlt => by simp at hq; exact ⟨by omega, by omega⟩)).below hb1, hR1.below hb1, ((Keeps.of_below hb0).trans hk1).trans (Keeps.of_below hb1), Nat.le_refl _, hFl⟩
  obtain ⟨t, ht⟩ : ∃ t, w1.heap.size = t := ⟨_, rfl⟩
  rw [ht] at hI hz1
  clear hc hP h2 hN hR1 hk1 hFl g2 hb1 gt hb0
  refine Lib.hid ?_
  go_wp2
  clear ht
  go_loopg [6] f (fun k _ wr => BndI f t a w B ts Fin r g k wr)
  case atStart => exact hI
  case round =>
    obtain ⟨x, b, cap, j, bad, p3, p2, hN, hR1, hk, hgf, hFl⟩ := hrel
    clear hI
    have hz3 := block_lt p3
    have hz2 := block_lt p2
    obtain ⟨c0, c1, c2, c3, f0, f1, f2, f3⟩ := in4 p3
    obtain ⟨d0, d1, d2, d3, e0, e1, e2, e3⟩ := in4 p2
    obtain ⟨b', cap', s0, s1, s2, v1, v2⟩ := hR1.cells
    have hNw : NdV (fun q => (no q ∨ w.heap.size ≤ q) ∧ q ≠ w.heap.size) wr x (ndv x b cap) := hN.weak (fun q hq _ => ⟨.inr (by omega), by omega⟩)
    rcases hFl with ⟨rfl, hFi⟩ | ⟨rfl, hP⟩
    · go_wp2
      refine bodyPost_ret (res116 rfl (put4_same _ _ _ _ p2)) rfl ?_
      exact na_close hNw hR1 hk (Nat.le_refl _) hBw (.inl ⟨rfl, hFi⟩)
    have hT := text_any B ts j false wr hR1
    have hSg := fun u => sign_at (tx (rest ts j)) u
    rw [show txd ts j false = tx (rest ts j) from rfl] at hT
    unfold sgV at hSg
    cases gk with
    | zero => cases hP
    | succ k =>
    dsimp only at hP
    rw [P] at hP
    cases hop : opAt (tx (rest ts j)) with
    | none =>
      rw [hop] at hP
      simp only [hop] at hSg
      have hq : ((-1 : Int) == (a : Int)) = false := by simp <;> omega
      obtain ⟨tt, htt⟩ : ∃ tt, tx (rest ts j) = tt := ⟨_, rfl⟩
      rw [htt] at hT hSg
      clear hop htt
      go_wp2_with (first | (go_at_call 30; refine hT.mono ?_; rintro e w2 ⟨rfl, hb2⟩) | (go_at_call 105; refine (hSg _).mono ?_; rintro e w3 ⟨rfl, hb3⟩; have hb := ext_trans hb2 hb3; have q3 := block_below hb p3; have q2 := block_below hb p2; obtain ⟨c0, c1, c2, c3, f0, f1, f2, f3⟩ := in4 q3; obtain ⟨d0, d1, d2, d3, e0, e1, e2, e3⟩ := in4 q2))
      refine bodyPost_ret (res116 rfl (put4_same _ _ _ _ q2)) rfl ?_
      exact na_close (hNw.below hb) (hR1.below hb) (hk.trans (Keeps.of_below hb)) (Nat.le_refl _) hBw (.inr ⟨rfl, hP⟩)
    | some ok =>
      obtain ⟨o, lv⟩ := ok
      rw [hop] at hP
      simp only [hop] at hSg
      simp only at hP
      by_cases hlv : lv = a
      · subst hlv
        rw [if_pos rfl, on_on] at hP
        have hne : tx (rest ts j) ≠ [] := fun e => by rw [e, show opAt [] = none by decide] at hop; cases hop
        have hjl := tx_lt rfl hne
        have hsh := hR1.short
        obtain ⟨tt, htt⟩ : ∃ tt, tx (rest ts j) = tt := ⟨_, rfl⟩
        rw [rest_tail] at hP
        rw [htt] at hT hSg
        have hcall := fun u (h : Dr u B ts (j + 1) false) => hG k (by omega) (lv + 1) r Fin _ B ts (j + 1) u (by omega) hF h hP
        rw [show ((lv + 1 : Nat) : Int) = (lv : Int) + 1 by omega] at hcall
        clear hop htt hne hP c0 c1 c2 c3 f0 f1 f2 f3 d0 d1 d2 d3 e0 e1 e2 e3
        go_wp2_with (first | (go_at_call 30; refine hT.mono ?_; rintro e w2 ⟨rfl, hb2⟩) | (go_at_call 105; refine (hSg _).mono ?_; rintro e w3 ⟨rfl, hb3⟩; have hb := ext_trans hb2 hb3; have hR3 := hR1.below hb; have hR4 := hR3.go (j := j + 1) hjl; obtain ⟨b', cap', s0, s1, s2, v1, v2⟩ := hR3.cells) | (go_at_call 88; refine (hcall _ hR4).mono ?_; rintro e w5 ⟨y, by', cy, j2, bad2, rfl, hNy, hR5, hk5, hFl2⟩; refine Hid.out ?_))
        have hk4 : Keeps (fun q => q = B) wr (w3.setCell ⟨B, 1, none⟩ (.int .i64 ((j + 1 : Nat) : Int))) := (Keeps.of_below hb).set B 1 _ (fun _ => rfl)
        have hk5' := hk4.trans hk5
        have q3 := hk5'.box p3 (by omega)
        have q2 := hk5'.box p2 (by omega)
        have hNx5 := hN.keep hk5' (fun q hq _ e => by omega)
        have hz4 := hk5'.size
        have hz6 := hk5.size
        have hNy5 : NdV (fun q => w.heap.size < q ∧ q ≠ t) w5 y (ndv y by' cy) := hNy.weak (fun q hq _ => by have h1 := hk4.size; have h2 := hq.resolve_left id; exact ⟨by omega, by omega⟩)
        have hb6 := ext_alloc (Below.refl w5.heap.size w5) (nbx y by' cy)
        have gy := alloc_new w5 (nbx y by' cy)
        have hNx6 := (hNx5.weak (S' := fun q => (w.heap.size < q ∧ q ≠ t)) (fun q hq _ => hq)).below hb6
        have hNy6 := hNy5.below hb6
        have hR6 := hR5.below hb6
        have hkw6 := (hk.trans hk5').trans (Keeps.of_below hb6)
        have q36 := block_below hb6 q3
        have q26 := block_below hb6 q2
        clear hk4 hk5 hNx5 hNy5 hNy hR5 hT hSg hcall hR4 hR3 s0 s1 s2 v1 v2 hb2 hb3 hb hN hNw
        obtain ⟨w6, hw6⟩ : ∃ w6, w5.alloc (nbx y by' cy) = w6 := ⟨_, rfl⟩
        rw [hw6] at gy hNx6 hNy6 hR6 hkw6 q36 q26
        have hz7 : w5.heap.size < w6.heap.size := block_lt gy
        obtain ⟨W7, hW7⟩ : ∃ W7, put4 (w6.alloc (.cells #[.int .i64 x.k, sk x.t, .int .i64 x.n, .slice b x.kids.length cap, .int .i64 y.k, sk y.t, .int .i64 y.n, .slice by' y.kids.length cy] 24)) t (.int .i64 22) (sk []) (.int .i64 o) (.slice (some ⟨w6.heap.size, 0, none⟩) 2 2) = W7 := ⟨_, rfl⟩
        obtain ⟨hN7, g7, hk7⟩ := pair_box 22 o hNx6 hNy6 (fun q hq => hq.2) ⟨by omega, by omega⟩ q36 hW7
        have g27 := hk7.box q26 (by omega)
        have hR7 := hR6.keep hk7 (fun q hq e => by omega)
        have hkw7 := hkw6.then hk7 (fun q hq e => by omega)
        replace hw6 : w5.alloc (.cells #[.int .i64 y.k, .string ⟨y.t.toArray⟩, .int .i64 y.n, .slice by' y.kids.length cy] 24) = w6 := hw6
        replace hW7 : ((((w6.alloc (.cells #[.int .i64 x.k, .string ⟨x.t.toArray⟩, .int .i64 x.n, .slice b x.kids.length cap, .int .i64 y.k, .string ⟨y.t.toArray⟩, .int .i64 y.n, .slice by' y.kids.length cy] 24)).setCell ⟨t, 0, none⟩ (.int .i64 22)).setCell ⟨t, 1, none⟩ (.string ⟨#[]⟩)).setCell ⟨t, 2, none⟩ (.int .i64 o)).setCell ⟨t, 3, none⟩ (.slice (some ⟨w6.heap.size, 0, none⟩) 2 2) = W7 := hW7
        obtain ⟨c0, c1, c2, c3, f0, f1, f2, f3⟩ := in4 q36
        obtain ⟨x0, x1, x2, x3, y0, y1, y2, y3⟩ := in4a q36
        obtain ⟨a0, a1, a2, a3, _, _, _, _⟩ := in4 gy
        have n1 : ¬ t = w6.heap.size := by omega
        have n2 : ¬ w6.heap.size = t := by omega
        have hNw7 : NdV (fun q => (no q ∨ w.heap.size ≤ q) ∧ q ≠ w.heap.size) W7 ⟨22, [], o, [x, y]⟩ (ndv ⟨22, [], o, [x, y]⟩ (some ⟨w6.heap.size, 0, none⟩) 2) := hN7.weak (fun q hq _ => ⟨.inr (by omega), by omega⟩)
        clear q3 q2 hb6 hNx6 hNy6 hR6 hkw6 q26 hk7 p3 p2 hR1 hk hk5' hG hF q36 gy hz4 hz6 hz2 hz3 hz1
        replace hN7 : Hid _ := hN7
        replace hFl2 : Hid _ := hFl2
        replace hNw7 : Hid _ := hNw7
        replace hR7 : Hid _ := hR7
        replace hkw7 : Hid _ := hkw7
        obtain ⟨r0, r1, r2, r3, t0, t1, t2, t3⟩ := in4 g7
        obtain ⟨d0, d1, d2, d3, e0, e1, e2, e3⟩ := in4 g27
        refine Lib.hid ?_
        by_cases h2 : lv = 2
        · subst h2
          have hFl3 : Hid (Fl ts Fin r j2 bad2 (g ⟨22, [], o, [x, y]⟩)) := by
            rcases hFl2.out with h | ⟨h1, h2⟩
            · exact .inl h
            · exact .inr ⟨h1, h2⟩
          clear hFl2
          go_wp2
          refine bodyPost_ret (res116 rfl (put4_same _ _ _ _ g27)) rfl ?_
          exact na_close (x := ⟨22, [], o, [x, y]⟩) hNw7.out hR7.out hkw7.out (Nat.le_refl _) hBw hFl3.out
        · have hq2 : ((lv : Int) == 2) = false := by simp; omega
          have hFl3 : Hid (Fl ts Fin r j2 bad2 (fun l => (P k 2 ⟨22, [], o, [x, y]⟩ lv l).on g)) := by
            rcases hFl2.out with h | ⟨h1, h3⟩
            · exact .inl h
            · refine .inr ⟨h1, ?_⟩
              dsimp only at h3
              rw [if_neg h2] at h3
              exact h3
          clear hFl2
          go_wp2
          go_roundg k
          case measure => omega
          case rel => exact ⟨⟨22, [], o, [x, y]⟩, _, 2, j2, bad2, g7, g27, hN7.out, hR7.out, hkw7.out, by omega, hFl3.out⟩
      · have hq : (((lv : Nat) : Int) == (a : Int)) = false := by simp; omega
        rw [if_neg hlv] at hP
        obtain ⟨tt, htt⟩ : ∃ tt, tx (rest ts j) = tt := ⟨_, rfl⟩
        rw [htt] at hT hSg
        clear hop htt
        go_wp2_with (first | (go_at_call 30; refine hT.mono ?_; rintro e w2 ⟨rfl, hb2⟩) | (go_at_call 105; refine (hSg _).mono ?_; rintro e w3 ⟨rfl, hb3⟩; have hb := ext_trans hb2 hb3; have q3 := block_below hb p3; have q2 := block_below hb p2; obtain ⟨c0, c1, c2, c3, f0, f1, f2, f3⟩ := in4 q3; obtain ⟨d0, d1, d2, d3, e0, e1, e2, e3⟩ := in4 q2))
        refine bodyPost_ret (res116 rfl (put4_same _ _ _ _ q2)) rfl ?_
        exact na_close (hNw.below hb) (hR1.below hb) (hk.trans (Keeps.of_below hb)) (Nat.le_refl _) hBw (.inr ⟨rfl, hP⟩)
theorem bound_of (f : Nat) (hG : ∀ k, k ≤ f → DRow k) (hU : DUn f) : DRow (f + 1) := by
  intro a r Fin g B ts i w ha hF hR hP
  rw [P, ite_on] at hP
  split at hP
  · have : a = 6 := by omega
    subst this
    exact bound_un f hU r Fin g B ts i w hF hR hP
  · rw [on_on] at hP
    exact bound_ops f hG a (by omega) r Fin g B ts i w hF hR hP
end Go.Proofs.YtnnppenlfocgiaaGreatDoor
