/- Walks of the document's own reading of tokens: a text between quotes, a sign. -/
import Derived.Test.YtkcieeckndimpaaDoorLH
import Derived.Deep.QuietTactic
import Derived.BigQuiet
namespace Go.Proofs.YtkcieeckndimpaaDoor
open Go.RowKit
open Go

def rqV (r : List UInt8) : Value := if r[runN txtB r]? = some 34 then .tuple #[.int .i64 (runN txtB r : Nat), .bool true] else .tuple #[.int .i64 0, .bool false]

set_option maxRecDepth 20000 in
set_option maxHeartbeats 2000000 in
theorem rquoted_any (s : ByteArray) (hs : s.size ≤ 4000) (a : Nat) (ha : a ≤ s.size) (w : World) :
    Calls Tryd.prog 56 #[.string s, .int .i64 a] w fun e w' => e = .returned (rqV (s.data.toList.drop a)) ∧ w' = w := by
  obtain ⟨V, hV⟩ : ∃ V, rqV (s.data.toList.drop a) = V := ⟨_, rfl⟩
  rw [hV]
  replace hV : Hid _ := hV
  go_enter Tryd.func56, Tryd.ntmps56
  go_wp2
  go_loop [6] (fun i => ∃ k : Nat, a + k ≤ s.size ∧ i = .int .i64 k ∧ ∀ i d, i < k → (s.data.toList.drop a)[i]? = some d → txtB d = true) (fun i => s.size - (intOf i).toNat)
  case atStart => exact ⟨0, by omega, rfl, fun i d h => by omega⟩
  case round =>
    obtain ⟨k, hk, rfl, hno⟩ := hrel
    by_cases hlt : a + k < s.size
    · have hc : (s.data.toList.drop a)[k]? = some s[a + k] := by
        rw [drop_get]; exact byte_at hlt
      have hT := take_run txtB (s.data.toList.drop a) k s[a + k] hc hno
      have hlt' : (a : Int) + (k : Int) < (s.size : Int) := by omega
      replace hT : Hid _ := hT
      replace hno : Hid _ := hno
      replace hc : Hid _ := hc
      by_cases h1 : s[a + k].toNat = 34
      · have h1' : ((s[a + k].toNat : Int) == 34) = true := by simp [h1]
        have hp : Hid (V = .tuple #[.int .i64 (k : Nat), .bool true]) := by
          show V = _
          have e34 : s[a + k] = 34 := UInt8.toNat_inj.1 h1
          have := hT.out.2 (by rw [e34]; decide)
          rw [← hV.out, rqV, this, hc.out, e34, if_pos rfl]
        clear hT h1 hc hno
        go_wp2
        go_ret2
        exact ⟨congrArg _ hp.out.symm, rfl⟩
      · have h1' : ((s[a + k].toNat : Int) == 34) = false := by simp; omega
        by_cases h2 : (s[a + k].toNat : Int) < 32 ∨ 126 < (s[a + k].toNat : Int)
        · have hp : Hid (V = .tuple #[.int .i64 0, .bool false]) := by
            show V = _
            have := hT.out.2 (by simp [txtB]; omega)
            rw [← hV.out, rqV, this, hc.out, if_neg (fun e => h1 (by injection e with e; rw [e]; rfl))]
          clear hT h1 hc hno
          rcases h2 with h2 | h2
          · go_wp2
            go_ret2
            exact ⟨congrArg _ hp.out.symm, rfl⟩
          · have h3 : ¬ (s[a + k].toNat : Int) < 32 := by omega
            go_wp2
            go_ret2
            exact ⟨congrArg _ hp.out.symm, rfl⟩
        · have h3 : ¬ (s[a + k].toNat : Int) < 32 := by omega
          have h4 : ¬ 126 < (s[a + k].toNat : Int) := by omega
          have hp : Hid (∀ i d, i < k + 1 → (s.data.toList.drop a)[i]? = some d → txtB d = true) := hT.out.1 (by simp [txtB]; omega)
          clear hT h1 hc hno h2
          go_wp2
          go_round
          case rel => exact ⟨k + 1, by omega, by go_num, hp.out⟩
          case measure => simp [intOf]; omega
    · have hlt' : ¬ (a : Int) + (k : Int) < (s.size : Int) := by omega
      have hp : Hid (V = .tuple #[.int .i64 0, .bool false]) := by
        show V = _
        have hn : (s.data.toList.drop a)[k]? = none := by rw [drop_get, List.getElem?_eq_none (by simp; omega)]
        have := runN_eq txtB (s.data.toList.drop a) k (by simp; omega) hno (fun c hc => by rw [hn] at hc; cases hc)
        rw [← hV.out, rqV, this, hn, if_neg (by simp)]
      clear hno
      go_wp2
      go_ret2
      exact ⟨congrArg _ hp.out.symm, rfl⟩

/-- The signs, the longer ones first. -/
def signsL : List (List UInt8) := [[61, 61], [60, 61], [46, 46]] ++ signs1.map (fun c => [c])
def firstS (r : List UInt8) : List UInt8 := (signsL.find? (fun p => Lib.hasPrefix r p)).getD []

theorem find_one (c : UInt8) (q : List UInt8) : ∀ L : List UInt8, (L.map (fun x => [x])).find? (fun p => Lib.hasPrefix (c :: q) p) = if L.contains c then some [c] else none
  | [] => rfl
  | x :: L => by
    rw [List.map_cons, List.find?_cons, find_one c q L, pre1, List.contains_cons]
    by_cases h : c = x
    · subst h; simp
    · have h' : ¬ x = c := fun e => h e.symm
      have e1 : (c == x) = false := by simpa using h
      simp [h, e1]
theorem firstS_eq (c : UInt8) (q : List UInt8) : firstS (c :: q) = (c :: q).take (signN (c :: q)) := by
  have hC := sign_cases c q
  unfold firstS signsL
  rw [List.find?_append, find_one]
  simp only [List.find?_cons, List.find?_nil]
  rcases hC with ⟨e1, e2, e3⟩ | ⟨e1, e2, e3, e4⟩ | ⟨e1, e2, e3, e4, e5⟩ | ⟨e1, e2, e3, e4⟩
  · rw [e1, e2, e3]; rfl
  · rw [e1, e2, e3, e4]; rfl
  · rw [e1, e2, e3, e4, e5]; rfl
  · rw [e1, e2, e3]
    have hn := index_neg signs1 c
    rcases e4 with ⟨k1, k2⟩ | ⟨k1, k2⟩
    · rw [k2, hn.1 k1]; rfl
    · rw [k2]
      have : signs1.contains c = true := by
        cases h : signs1.contains c
        · have := hn.2 h; omega
        · rfl
      rw [this]; rfl

def signCells : Array Value := #[.string ⟨#[61, 61]⟩, .string ⟨#[60, 61]⟩, .string ⟨#[46, 46]⟩, .string ⟨#[40]⟩, .string ⟨#[41]⟩, .string ⟨#[123]⟩, .string ⟨#[125]⟩, .string ⟨#[91]⟩, .string ⟨#[93]⟩, .string ⟨#[44]⟩, .string ⟨#[59]⟩, .string ⟨#[61]⟩, .string ⟨#[60]⟩, .string ⟨#[43]⟩, .string ⟨#[45]⟩, .string ⟨#[42]⟩, .string ⟨#[47]⟩, .string ⟨#[37]⟩, .string ⟨#[35]⟩]

theorem signCells_get (k : Nat) (p : List UInt8) (h : signsL[k]? = some p) : signCells[k]? = some (.string ⟨p.toArray⟩) := by
  have e : signCells = (signsL.map (fun p => Value.string ⟨p.toArray⟩)).toArray := rfl
  rw [e]
  simp [h]
theorem heap_drewN (w : World) (n : Nat) : (w.drewN n).heap = w.heap := rfl
theorem below_drewN {m : Nat} {w W : World} (h : Below m w W) (n : Nat) : Below m w (W.drewN n) := ⟨h.os, h.tape, h.output, h.size, h.block⟩
theorem signsL_len : signsL.length = 19 := rfl
theorem signsL_short (k : Nat) (p : List UInt8) (h : signsL[k]? = some p) : 0 < p.length ∧ p.length ≤ 2 := by
  have : ∀ p ∈ signsL, 0 < p.length ∧ p.length ≤ 2 := by decide
  exact this p (List.mem_of_getElem? h)
theorem pre_piece (s P : ByteArray) (a : Nat) (hP : 0 < P.size) :
    Lib.hasPrefix (s.data.toList.drop a) P.data.toList = (decide ((a : Int) + (P.size : Int) ≤ (s.size : Int)) && ((s.extract a (a + P.size)).toList == P.toList)) := by
  have hz : P.data.toList.length = P.size := by simp
  rw [ByteArray.toList_eq, ByteArray.toList_eq, piece_list, Nat.add_sub_cancel_left]
  unfold Lib.hasPrefix
  rw [Bool.eq_iff_iff, List.isPrefixOf_iff_prefix]
  simp only [Bool.and_eq_true, decide_eq_true_eq, beq_iff_eq]
  constructor
  · intro h
    have hl := h.length_le
    rw [hz] at hl
    simp at hl
    refine ⟨by omega, ?_⟩
    rw [List.prefix_iff_eq_take] at h
    rw [hz] at h
    exact h.symm
  · rintro ⟨_, h⟩
    rw [← h]
    exact List.take_prefix _ _
theorem find_not {r : List UInt8} {k : Nat} {p : List UInt8} (hno : ∀ j q, j < k → signsL[j]? = some q → Lib.hasPrefix r q = false) (hp : signsL[k]? = some p) (h : Lib.hasPrefix r p = true) : firstS r = p := by
  unfold firstS
  have : signsL.find? (fun p => Lib.hasPrefix r p) = some p := by
    rw [List.find?_eq_some_iff_getElem]
    obtain ⟨hk, hk'⟩ := List.getElem?_eq_some_iff.1 hp
    exact ⟨h, k, hk, hk', fun j hj => by rw [hno j _ hj (List.getElem?_eq_getElem (by omega))]; rfl⟩
  rw [this]; rfl
theorem find_none {r : List UInt8} (hno : ∀ j q, j < 19 → signsL[j]? = some q → Lib.hasPrefix r q = false) : firstS r = [] := by
  unfold firstS
  have : signsL.find? (fun p => Lib.hasPrefix r p) = none := by
    rw [List.find?_eq_none]
    intro q hq
    obtain ⟨j, hj, hj'⟩ := List.getElem_of_mem hq
    rw [hno j q (by rw [signsL_len] at hj; exact hj) (by rw [List.getElem?_eq_getElem hj, hj'])]
    simp
  rw [this]; rfl

set_option maxRecDepth 20000 in
set_option maxHeartbeats 2000000 in
theorem rsign_any (s : ByteArray) (hs : s.size ≤ 4000) (a : Nat) (ha : a < s.size) (w : World) :
    Calls Tryd.prog 57 #[.string s, .int .i64 a] w fun e w' => e = .returned (.string ⟨(firstS (s.data.toList.drop a)).toArray⟩) ∧ Below w.heap.size w w' := by
  obtain ⟨V, hV⟩ : ∃ V, firstS (s.data.toList.drop a) = V := ⟨_, rfl⟩
  rw [hV]
  replace hV : Hid _ := hV
  go_enter Tryd.func57, Tryd.ntmps57
  go_wp2
  go_loopw [6] (fun i wr => ∃ k : Nat, k ≤ 19 ∧ i = .int .i64 k ∧ Below w.heap.size w wr ∧ wr.heap[w.heap.size]? = some (.cells signCells 9) ∧ ∀ j q, j < k → signsL[j]? = some q → Lib.hasPrefix (s.data.toList.drop a) q = false) (fun i _ => 19 - (intOf i).toNat)
  case atStart => exact ⟨0, by omega, rfl, ext_alloc (Below.refl _ _) _, alloc_new _ _, fun j q h => by omega⟩
  case round =>
    obtain ⟨k, hk, rfl, hb, hr, hno⟩ := hrel
    by_cases hlt : k < 19
    · obtain ⟨p, hp⟩ : ∃ p, signsL[k]? = some p := ⟨signsL[k]'(by rw [signsL_len]; exact hlt), List.getElem?_eq_getElem _⟩
      have hcell := cell_block hr (signCells_get k p hp)
      obtain ⟨hp1, hp2⟩ := signsL_short k p hp
      have hfn := find_not hno hp
      rw [hV.out] at hfn
      have hno2 : Lib.hasPrefix (s.data.toList.drop a) p = false → ∀ j q, j < k + 1 → signsL[j]? = some q → Lib.hasPrefix (s.data.toList.drop a) q = false := fun h j q hj hq => by
        by_cases e : j = k
        · subst e; rw [hp] at hq; cases hq; exact h
        · exact hno j q (by omega) hq
      obtain ⟨P, hP⟩ : ∃ P : ByteArray, ⟨p.toArray⟩ = P := ⟨_, rfl⟩
      have hPl : P.data.toList = p := by rw [← hP]
      have hPz : P.size = p.length := by rw [← hP]; simp [ByteArray.size]
      rw [hP] at hcell
      rw [← hPl] at hfn hno2
      have hpp := pre_piece s P a (by omega)
      rw [hpp] at hfn hno2
      have hP1 : 0 < P.size := by omega
      have hP2 : P.size ≤ 2 := by omega
      clear hp hp1 hp2 hP hPl hPz hpp hno
      have hlt' : (k : Int) < 19 := by omega
      have hk0 : (0 : Int) ≤ (k : Int) := by omega
      by_cases g : (a : Int) + (P.size : Int) ≤ (s.size : Int)
      · have g1 : decide ((a : Int) + (P.size : Int) ≤ (s.size : Int)) = true := decide_eq_true g
        rw [g1, Bool.true_and] at hfn hno2
        cases he : ((s.extract a (a + P.size)).toList == P.toList)
        · have hno3 : Hid _ := hno2 he
          clear hno2 hfn
          go_wp2
          go_quiet (fail)
          go_wp2
          go_roundw
          case rel => exact ⟨k + 1, by omega, by go_num, below_drewN hb nq, by rw [heap_drewN]; exact hr, hno3.out⟩
          case measure => simp [intOf]; omega
        · have hfn' : Hid _ := hfn he
          clear hno2 hfn
          go_wp2
          go_quiet (fail)
          go_wp2
          go_ret
          exact ⟨by rw [hfn'.out, ba_list]; rfl, below_drewN hb nq⟩
      · have g1 : decide ((a : Int) + (P.size : Int) ≤ (s.size : Int)) = false := decide_eq_false g
        rw [g1, Bool.false_and] at hfn hno2
        have hno3 : Hid _ := hno2 rfl
        clear hno2 hfn g
        go_wp2
        go_quiet (fail)
        go_wp2
        go_roundw
        case rel => exact ⟨k + 1, by omega, by go_num, below_drewN hb nq, by rw [heap_drewN]; exact hr, hno3.out⟩
        case measure => simp [intOf]; omega
    · obtain rfl : k = 19 := by omega
      have hn : Hid _ := find_none hno
      rw [hV.out] at hn
      clear hno
      go_wp2
      go_ret
      exact ⟨by rw [hn.out]; rfl, hb⟩
end Go.Proofs.YtkcieeckndimpaaDoor
