/- Lists of tokens in memory; package lex's Scan. Walks of the document's own reading of tokens: bytes, rows, numerals, quotes. -/
import Derived.Test.YtbofdfdmikhanaaGreatDoorJ15
import Derived.OwnWalk
namespace Go.Proofs.YtbofdfdmikhanaaGreatDoor
open Go.RowKit
open Go

theorem info44 : (Tryz.prog.info? 44).map (fun i => (i.zero, i.size, i.bytes)) = some (some (.agg #[.int .i64 0, .string ⟨#[]⟩, .int .i64 0]), 3, 32) := by kernel_rfl

/-- A token's three cells. -/
def Tok.b (x : Tok) : ByteArray := ⟨x.t.toArray⟩
abbrev trioT (x : Tok) : List Value := [.int .i64 x.k, .string x.b, .int .i64 (x.a : Nat)]
def flatT (xs : List Tok) : List Value := xs.flatMap trioT
theorem flatT_snoc (xs : List Tok) (x : Tok) : flatT (xs ++ [x]) = flatT xs ++ trioT x := by simp [flatT]
theorem flatT_get {xs : List Tok} {j : Nat} {x : Tok} (h : xs[j]? = some x) (i : Nat) (hi : i < 3) : (flatT xs)[j * 3 + i]? = (trioT x)[i]? := by
  induction xs generalizing j with
  | nil => simp at h
  | cons y xs ih =>
    cases j with
    | zero =>
      simp at h
      subst h
      simp only [flatT, List.flatMap_cons]
      rw [List.getElem?_append_left (by simp; omega)]
      congr 1
      omega
    | succ j =>
      simp at h
      have := ih h
      simp only [flatT, List.flatMap_cons] at this ⊢
      rw [List.getElem?_append_right (by simp; omega), ← this]
      congr 1
      simp
      omega

theorem own_ge {base : Nat} {W : World} {v : Value} {n : Nat} {xs : List Value} (h : W.ownsRow base 44 3 v n xs) {b : Nat} (hb : v.ownBlock = some b) : base ≤ b ∧ b < W.heap.size := by
  rcases h.2 with ⟨rfl, _⟩ | ⟨g, cap, cur, rfl, hge, hg, _⟩
  · simp [Value.ownBlock] at hb
  · obtain rfl : g = b := by simpa [Value.ownBlock] using hb
    exact ⟨hge, (Array.getElem?_eq_some_iff.1 hg).1⟩
theorem own_kept {base : Nat} {W W' : World} {v : Value} {n : Nat} {xs : List Value} (h : W.ownsRow base 44 3 v n xs) (hw : ∀ b, v.ownBlock = some b → W'.heap[b]? = W.heap[b]?) : W'.ownsRow base 44 3 v n xs := by
  refine ⟨h.1, ?_⟩
  rcases h.2 with h0 | ⟨g, cap, cur, rfl, hge, hg, hr⟩
  · exact .inl h0
  · exact .inr ⟨g, cap, cur, rfl, hge, (hw g rfl).trans hg, hr⟩
theorem own_below {base : Nat} {W W' : World} {v : Value} {n : Nat} {xs : List Value} (h : W.ownsRow base 44 3 v n xs) (hb : Below W.heap.size W W') : W'.ownsRow base 44 3 v n xs :=
  own_kept h fun b e => hb.block b (own_ge h e).2

abbrev zeroF : Obj := .cells #[.int .i64 0, .int .i64 0] 27

/-- Between two rounds of a Scan. -/
structure SI (w : World) (v : Value) (ts : List Tok) (W : World) : Prop where
  own : W.ownsRow (w.heap.size + 1) 44 3 v ts.length (flatT ts)
  r : W.heap[w.heap.size]? = some zeroF
  bl : Below w.heap.size w W
theorem SI.on {w : World} {v : Value} {ts : List Tok} {W W' : World} (h : SI w v ts W) (hb : Below W.heap.size W W') : SI w v ts W' :=
  ⟨own_below h.own hb, block_below hb h.r, ext_trans h.bl hb⟩
theorem SI.step {w : World} {v : Value} {ts : List Tok} {x : Tok} {W w3 : World} {g cap : Nat} (h : SI w v ts W)
    (hown : w3.ownsRow (w.heap.size + 1) 44 3 (.slice (some ⟨g, 0, none⟩) (ts.length + 1) cap) (ts.length + 1) (flatT ts ++ trioT x)) (hg : W.grownBy w3 v.ownBlock) :
    SI w (.slice (some ⟨g, 0, none⟩) (ts.length + 1) cap) (ts ++ [x]) w3 := by
  have hlt := block_lt h.r
  have far : ∀ C, C < w.heap.size + 1 → w3.heap[C]? = W.heap[C]? := fun C hC => hg.block C (by omega) (fun e => by have := (own_ge h.own e.symm).1; omega)
  refine ⟨?_, (far _ (by omega)).trans h.r, h.bl.trans ⟨hg.os, hg.tape, hg.output, hg.size, fun C hC => far C (by omega)⟩⟩
  rw [flatT_snoc, List.length_append]
  exact hown
theorem newsT {W : World} {B : Nat} {x : Tok} (h : W.heap[B]? = some (tbx x.k x.b (x.a : Nat))) : ∀ j u, (trioT x)[j]? = some u → W.cell? ((⟨B, 0, none⟩ : Addr).add j) = some u := World.news_of_block (cs := #[.int .i64 x.k, .string x.b, .int .i64 (x.a : Nat)]) h

def toksOf : ScanR → List Tok
  | .inl _ => []
  | .inr l => l
def codeOf : ScanR → Int
  | .inl (e, _) => e
  | .inr _ => 0
def placeOf : ScanR → Nat
  | .inl (_, a) => a
  | .inr _ => 0
/-- What a Scan answers. -/
structure Out (w : World) (R : ScanR) (e : Ending) (w' : World) : Prop where
  out : ∃ b n d, e = .returned (.tuple #[.slice b n d, .agg #[.int .i64 (codeOf R), .int .i64 (placeOf R : Nat)]]) ∧ w'.ownsRow (w.heap.size + 1) 44 3 (.slice b n d) (toksOf R).length (flatT (toksOf R))
  bl : Below w.heap.size w w'

def scanAll (l : List UInt8) : ScanR := if 4000 < l.length then .bad 1 0 else scanR 0 l

theorem put2_same {W : World} {B : Nat} {p q p' q' : Value} (h : W.heap[B]? = some (.cells #[p, q] 27)) : ((W.setCell ⟨B, 0, none⟩ p').setCell ⟨B, 1, none⟩ q').heap[B]? = some (.cells #[p', q'] 27) := set_block _ (set_block _ h)
theorem put2_other (W : World) {B C : Nat} (p q : Value) (h : C ≠ B) : ((W.setCell ⟨B, 0, none⟩ p).setCell ⟨B, 1, none⟩ q).heap[C]? = W.heap[C]? := (set1_other _ _ h).trans (set1_other _ _ h)
theorem put2_below {m : Nat} {w W : World} {B : Nat} (p q : Value) (h : Below m w W) (hB : m ≤ B) : Below m w ((W.setCell ⟨B, 0, none⟩ p).setCell ⟨B, 1, none⟩ q) := (h.setCell (p := ⟨B, 0, none⟩) hB _).setCell (p := ⟨B, 1, none⟩) hB _
theorem SI.out {w : World} {b : Option Addr} {n d : Nat} {ts : List Tok} {W : World} (h : SI w (.slice b n d) ts W) (p q : Value) :
    ((W.setCell ⟨w.heap.size, 0, none⟩ p).setCell ⟨w.heap.size, 1, none⟩ q).ownsRow (w.heap.size + 1) 44 3 (.slice b n d) ts.length (flatT ts) :=
  own_kept h.own fun c e => put2_other _ _ _ (by have := (own_ge h.own e).1; omega)
theorem res18 {tm : Array Value} {W : World} {B : Nat} {v : Value} {c a : Int} (h : tm[3]?.getD undef = .pointer (some ⟨B, 0, none⟩)) (h2 : tm[2]?.getD undef = v) (hx : W.heap[B]? = some (.cells #[.int .i64 c, .int .i64 a] 27)) : (results Tryz.f12 tm).run Tryz.prog W = .ok (.tuple #[v, .agg #[.int .i64 c, .int .i64 a]]) W := by
  have c0 : W.cell? ⟨B, 0, none⟩ = some (.int .i64 c) := cell_block hx rfl
  have c1 : W.cell? ⟨B, 1, none⟩ = some (.int .i64 a) := cell_block hx rfl
  simp [results, Tryz.results12, go_sem, h, h2, c0, c1]
structure In2 (W : World) (B : Nat) (c a : Value) : Prop where
  c0 : W.cell? ⟨B, 0, none⟩ = some c
  c1 : W.cell? ⟨B, 1, none⟩ = some a
  f0 : W.frozen? ⟨B, 0, none⟩ = false
  f1 : W.frozen? ⟨B, 1, none⟩ = false
theorem in2 {W : World} {B : Nat} {c a : Value} (h : W.heap[B]? = some (.cells #[c, a] 27)) : In2 W B c a := ⟨cell_block h rfl, cell_block h rfl, frozen_block h, frozen_block h⟩

theorem bad_ne {l : List UInt8} {e : Int} (h : tokR l = .bad e) : (e == 0) = false ∧ -1 < e ∧ e < 9 := by
  cases l with
  | nil => simp [tokR] at h; subst h; decide
  | cons c r =>
    unfold tokR at h
    simp only at h
    split at h
    · split at h <;> cases h
      decide
    split at h
    · split at h <;> cases h
      rename_i hz
      refine ⟨by simpa using hz, ?_⟩
      unfold numE
      split
      · decide
      · split
        · decide
        · split <;> decide
    split at h
    · split at h
      · split at h <;> cases h
        decide
      · cases h; decide
    split at h <;> cases h
    decide

set_option maxRecDepth 20000 in
set_option maxHeartbeats 2000000 in
theorem scan_big (s : ByteArray) (hs : 4000 < s.size) (w : World) : Calls Tryz.prog 12 #[.string s] w (Out w (.bad 1 0)) := by
  have hs' : (4000 : Int) < (s.size : Int) := by omega
  go_enter Tryz.func12, Tryz.ntmps12
  go_wp2
  exact bodyPost_ret (res18 rfl rfl (alloc_new _ _)) rfl ⟨⟨none, 0, 0, rfl, World.ownsRow_nil _ _ _ _⟩, ext_alloc (Below.refl _ _) _⟩

set_option maxRecDepth 20000 in
set_option maxHeartbeats 2000000 in
theorem scan_ok (s : ByteArray) (hs : s.size ≤ 4000) (w : World) (hE : ErrV w) : Calls Tryz.prog 12 #[.string s] w (Out w (scanR 0 s.data.toList)) := by
  obtain ⟨i0, hi0, hz0, hz1, hz2⟩ := info_parts info44
  have hs' : ¬ (4000 : Int) < (s.size : Int) := by omega
  obtain ⟨R, hR⟩ : ∃ R, scanR 0 s.data.toList = R := ⟨_, rfl⟩
  rw [hR]
  have hlen : s.data.toList.length = s.size := by simp
  have hS0 : SI w (.slice none 0 0) [] (w.alloc zeroF) := ⟨World.ownsRow_nil _ _ _ _, alloc_new _ _, ext_alloc (Below.refl _ _) _⟩
  have hg0 := gapN_le s.data.toList.length s.data.toList (Nat.le_refl _)
  have hg1 := scanR_gapN s.data.toList.length s.data.toList 0 (Nat.le_refl _)
  rw [hlen] at hg0
  rw [hR] at hg1
  replace hg0 : Hid _ := hg0
  replace hg1 : Hid _ := hg1
  replace hlen : Hid _ := hlen
  replace hE : Hid _ := hE
  have hG := fun u => gap_any s hs u
  go_enter Tryz.func12, Tryz.ntmps12
  go_wp2_with (go_at_call 24; refine (hG _).mono ?_; rintro e w1 ⟨rfl, hb1⟩; refine Hid.out ?_)
  replace hS0 := hS0.on hb1
  clear hb1 hG
  refine Lib.hid ?_
  go_wp2_with fail
  go_loopw [4, 5] (fun v i wr => ∃ (k : Nat) (b : Option Addr) (n d : Nat) (ts : List Tok), k ≤ s.size ∧ i = .int .i64 k ∧ v = .slice b n d ∧ SI w v ts wr ∧ gap1 (s.data.toList.drop k) = 0 ∧ R = ScanR.pre ts (scanR k (s.data.toList.drop k)) ∧ ts.length ≤ k) (fun _ i _ => s.size - (intOf i).toNat)
  case atStart => exact ⟨gapN s.data.toList, none, 0, 0, [], hg0.out.1, rfl, rfl, hS0, hg0.out.2, by rw [ScanR.pre_nil, hg1.out]; simp, Nat.zero_le _⟩
  case round =>
    clear hS0 hg0 hg1
    obtain ⟨k, b, n, d, ts, hk, rfl, rfl, hS, hgap, hRk, htl⟩ := hrel
    obtain ⟨c0, c1, f0, f1⟩ := in2 hS.r
    by_cases hlt : k < s.size
    · have hne : s.data.toList.drop k ≠ [] := by
        intro e
        have := congrArg List.length e
        simp at this
        omega
      have hC := first_any (s.extract k s.size) (by simp; omega) (by simp; omega) wr (ErrV.on hE.out hS.bl)
      rw [drop_list] at hC
      have hk' : (k : Int) < (s.size : Int) := by omega
      cases ht : tokR (s.data.toList.drop k) using TokR.byCases with
      | bad e =>
        have hRb : Hid (R = .bad e k) := hRk.trans (by rw [scanR_bad hne hgap ht]; rfl)
        obtain ⟨hne0, _, _⟩ := bad_ne ht
        rw [ht] at hC
        unfold outR at hC
        simp only at hC
        clear ht hRk hgap hne htl
        go_wp2_with (go_at_call 25; refine hC.mono ?_; rintro e w2 ⟨rfl, hb2⟩; have hr2 := block_below hb2 hS.r; have hlt2 := block_lt hr2; obtain ⟨c0, c1, f0, f1⟩ := in2 hr2)
        refine bodyPost_ret (res18 rfl rfl (block_alloc _ (put2_same hr2))) rfl ?_
        rw [hRb.out]
        exact ⟨⟨none, 0, 0, rfl, World.ownsRow_nil _ _ _ _⟩, ext_alloc (put2_below _ _ (ext_trans hS.bl hb2) (Nat.le_refl _)) _⟩
      | tok k1 t1 n1 =>
        have hsz := tok_size ht
        have hl1 : (s.data.toList.drop k).length = s.size - k := by simp
        rw [hl1] at hsz
        have hRt := scanR_tok hne hgap ht k
        rw [List.drop_drop] at hRt
        rw [hRt, ScanR.pre_pre] at hRk
        rw [ht] at hC
        unfold outR at hC
        simp only at hC
        have hn1 : ts.length + 1 ≤ maxLen := by unfold maxLen; omega
        have hb1 : (ts.length + 1) * 32 ≤ 140737488355328 := by omega
        replace hRk : Hid _ := hRk
        replace hl1 : Hid _ := hl1
        clear ht hgap hne hRt
        go_wp2_with (first | (go_at_call 25; refine hC.mono ?_; rintro e w2 ⟨rfl, hb2⟩; have hr2 := block_below hb2 hS.r; obtain ⟨c0, c1, f0, f1⟩ := in2 hr2) | (at_builtin; refine Hid.out ?_))
        clear c0 c1 f0 f1 hr2 hC
        obtain ⟨y, hy⟩ : ∃ y : Tok, y = ⟨k1, t1, k⟩ := ⟨_, rfl⟩
        obtain ⟨W, hW⟩ : ∃ W, (w2.alloc (tbx k1 ⟨t1.toArray⟩ k)).alloc (tbx k1 ⟨t1.toArray⟩ k) = W := ⟨_, rfl⟩
        have hnew : W.heap[w2.heap.size + 1]? = some (tbx y.k y.b (y.a : Nat)) := by
          subst hW hy
          have := alloc_new (w2.alloc (tbx k1 ⟨t1.toArray⟩ k)) (tbx k1 ⟨t1.toArray⟩ k)
          simp only [World.size_alloc] at this
          exact this
        have hSW : SI w (.slice b n d) ts W := by
          subst hW
          exact ((hS.on hb2).on (ext_alloc (Below.refl _ _) _)).on (ext_alloc (Below.refl _ _) _)
        have hszW : w.heap.size + 1 ≤ W.heap.size := block_lt hSW.r
        rw [hW]
        clear hW hb2 hS
        have hdd : k + n1 ≤ s.size := by omega
        have hG := fun u => gap_any (s.extract (k + n1) s.size) (by simp; omega) u
        rw [drop_list] at hG
        have hg0 := gapN_le _ (s.data.toList.drop (k + n1)) (Nat.le_refl _)
        have hg1 := scanR_gapN _ (s.data.toList.drop (k + n1)) (k + n1) (Nat.le_refl _)
        rw [List.drop_drop] at hg0 hg1
        rw [hg1, ← hy] at hRk
        have hg2 : gapN (s.data.toList.drop (k + n1)) ≤ s.size - (k + n1) := by
          have := hg0.1
          rw [List.length_drop, hlen.out] at this
          exact this
        obtain ⟨g1, hg1e⟩ : ∃ g1, gapN (s.data.toList.drop (k + n1)) = g1 := ⟨_, rfl⟩
        rw [hg1e] at hG hg0 hRk hg2
        have hg3 : Hid _ := hg0.2
        clear hg0 hg1 hg1e hy
        refine Lib.hid ?_
        go_wp2_with (first
          | (at_builtin; refine wpList_append_lies _ (by rfl) _ _ _ (by rfl) (w.heap.size + 1) 44 i0 _ 3 32 Tryz.underlying35 hi0 hz0 hz1 hz2 rfl (by omega) (.slice b n d) ts.length (flatT ts) (by rfl) hSW.own ⟨w2.heap.size + 1, 0, none⟩ 1 1 (trioT y) (by rfl) (by rfl) (newsT hnew) (by simp [Value.oneCell']) (by omega) hn1 hb1 hszW _ rfl ?_; intro g cap w5 hown1 hgrow hat1 hlt1; have hS5 := hSW.step hown1 hgrow; clear hown1 hgrow hat1 hlt1)
          | (go_at_call 24; refine (hG _).mono ?_; rintro e w6 ⟨rfl, hb6⟩))
        go_roundw
        case rel => exact ⟨k + n1 + g1, _, _, _, ts ++ [y], by omega, by go_num, rfl, hS5.on hb6, hg3.out, hRk.out, by simp; omega⟩
        case measure => simp [intOf]; omega
    · have hk' : ¬ (k : Int) < (s.size : Int) := by omega
      have hRe : Hid (R = .toks ts) := hRk.trans (by rw [List.drop_eq_nil_of_le (by rw [hlen.out]; omega), scanR_nil]; simp [ScanR.pre, ScanR.toks])
      clear hRk hgap
      go_wp2
      refine bodyPost_ret (res18 rfl rfl (put2_same hS.r)) rfl ?_
      rw [hRe.out]
      exact ⟨⟨b, n, d, rfl, hS.out _ _⟩, put2_below _ _ hS.bl (Nat.le_refl _)⟩
end Go.Proofs.YtbofdfdmikhanaaGreatDoor
namespace Go.Proofs.YtbofdfdmikhanaaGreatDoor
open Go.RowKit
open Go

set_option maxRecDepth 20000 in
set_option maxHeartbeats 1000000 in
theorem digit_any (x : UInt8) (w : World) : Calls Tryz.prog 67 #[.int .u8 (x.toNat : Int)] w fun e w' => e = .returned (.bool (digB x)) ∧ w' = w := by
  by_cases h1 : (48 : Int) ≤ (x.toNat : Int) <;> by_cases h2 : (x.toNat : Int) ≤ 57
  all_goals
    go_enter Tryz.func67, Tryz.ntmps67
    go_wp2
    go_ret
    exact ⟨ret_bool (by simp [digB]; omega), rfl⟩

set_option maxRecDepth 20000 in
set_option maxHeartbeats 1000000 in
theorem letter_any (x : UInt8) (w : World) : Calls Tryz.prog 66 #[.int .u8 (x.toNat : Int)] w fun e w' => e = .returned (.bool (letB x)) ∧ w' = w := by
  by_cases h1 : x.toNat = 95
  · have h1' : ((x.toNat : Int) == 95) = true := by simp [h1]
    go_enter Tryz.func66, Tryz.ntmps66
    go_wp2
    go_ret
    exact ⟨ret_bool (by simp [letB, h1]), rfl⟩
  have h1' : ((x.toNat : Int) == 95) = false := by simp; omega
  by_cases h2 : (97 : Int) ≤ (x.toNat : Int) <;> by_cases h3 : (x.toNat : Int) ≤ 122 <;> by_cases h4 : (65 : Int) ≤ (x.toNat : Int) <;> by_cases h5 : (x.toNat : Int) ≤ 90
  all_goals first
    | (exfalso; omega)
    | (go_enter Tryz.func66, Tryz.ntmps66
       go_wp2
       go_ret
       exact ⟨ret_bool (by simp [letB, h1]; omega), rfl⟩)

/-- Whether a byte goes on, as the document asks it. -/
theorem drop_get (l : List UInt8) (a n : Nat) : (l.drop a)[n]? = l[a + n]? := by simp

set_option maxRecDepth 20000 in
set_option maxHeartbeats 2000000 in
theorem row_any (s : ByteArray) (hs : s.size ≤ 4000) (a : Nat) (ha : a ≤ s.size) (w : World) :
    Calls Tryz.prog 65 #[.string s, .int .i64 a] w fun e w' => e = .returned (.int .i64 (runN rowB (s.data.toList.drop a) : Nat)) ∧ w' = w := by
  obtain ⟨V, hV⟩ : ∃ V, runN rowB (s.data.toList.drop a) = V := ⟨_, rfl⟩
  rw [hV]
  replace hV : Hid _ := hV
  go_enter Tryz.func65, Tryz.ntmps65
  go_wp2
  go_loop [5] (fun i => ∃ k : Nat, a + k ≤ s.size ∧ i = .int .i64 k ∧ ∀ i d, i < k → (s.data.toList.drop a)[i]? = some d → rowB d = true) (fun i => s.size - (intOf i).toNat)
  case atStart => exact ⟨0, by omega, rfl, fun i d h => by omega⟩
  case round =>
    obtain ⟨k, hk, rfl, hno⟩ := hrel
    by_cases hlt : a + k < s.size
    · have hc : (s.data.toList.drop a)[k]? = some s[a + k] := by
        rw [drop_get]; exact byte_at hlt
      have hT := take_run rowB (s.data.toList.drop a) k s[a + k] hc hno
      rw [hV.out] at hT
      have hL := letter_any s[a + k] w
      have hD := digit_any s[a + k] w
      have hr : rowB s[a + k] = (letB s[a + k] || digB s[a + k]) := rfl
      rw [hr] at hT
      have hlt' : (a : Int) + (k : Int) < (s.size : Int) := by omega
      clear hc
      replace hT : Hid _ := hT
      replace hno : Hid _ := hno
      cases h1 : letB s[a + k]
      · cases h2 : digB s[a + k]
        · rw [h1] at hL
          rw [h2] at hD
          have hp : Hid (V = k) := hT.out.2 (by rw [h1, h2]; rfl)
          clear hT h1 h2
          go_wp2_with (first | (go_at_call 66; refine hL.mono ?_; rintro e w' ⟨rfl, rfl⟩) | (go_at_call 67; refine hD.mono ?_; rintro e w' ⟨rfl, rfl⟩))
          go_ret
          exact ⟨ret_int (by rw [hp.out]), rfl⟩
        · rw [h1] at hL
          rw [h2] at hD
          have hp : Hid (∀ i d, i < k + 1 → (s.data.toList.drop a)[i]? = some d → rowB d = true) := hT.out.1 (by rw [h1, h2]; rfl)
          clear hT h1 h2
          go_wp2_with (first | (go_at_call 66; refine hL.mono ?_; rintro e w' ⟨rfl, rfl⟩) | (go_at_call 67; refine hD.mono ?_; rintro e w' ⟨rfl, rfl⟩))
          go_round
          case rel => exact ⟨k + 1, by omega, by go_num, hp.out⟩
          case measure => simp [intOf]; omega
      · rw [h1] at hL
        have hp : Hid (∀ i d, i < k + 1 → (s.data.toList.drop a)[i]? = some d → rowB d = true) := hT.out.1 (by rw [h1]; rfl)
        clear hT h1
        go_wp2_with (first | (go_at_call 66; refine hL.mono ?_; rintro e w' ⟨rfl, rfl⟩) | (go_at_call 67; refine hD.mono ?_; rintro e w' ⟨rfl, rfl⟩))
        go_round
        case rel => exact ⟨k + 1, by omega, by go_num, hp.out⟩
        case measure => simp [intOf]; omega
    · have hlt' : ¬ (a : Int) + (k : Int) < (s.size : Int) := by omega
      have hp : Hid (V = k) := by
        show V = k
        rw [← hV.out]
        exact runN_eq rowB _ k (by simp; omega) hno (fun c hc => by rw [drop_get, List.getElem?_eq_none (by simp; omega)] at hc; cases hc)
      clear hno
      go_wp2_with fail
      go_ret
      exact ⟨ret_int (by rw [hp.out]), rfl⟩

theorem more_eq : ∀ x y : List UInt8, (!Op.bytesLess x y && !(x == y)) = Op.bytesLess y x
  | [], [] => by simp [Op.bytesLess]
  | [], _ :: _ => by simp [Op.bytesLess]
  | _ :: _, [] => by simp [Op.bytesLess]
  | a :: x, b :: y => by
    have ih := more_eq x y
    rw [Op.bytesLess, Op.bytesLess]
    by_cases h : a = b
    · subst h
      simp only [beq_self_eq_true, Bool.true_and, UInt8.lt_irrefl, decide_false, Bool.false_or, List.cons_beq_cons]
      exact ih
    · have h' : ¬ b = a := fun e => h e.symm
      have e1 : (a == b) = false := by simpa using h
      have e2 : (b == a) = false := by simpa using h'
      have hn : a.toNat ≠ b.toNat := fun e => h (UInt8.toNat_inj.1 e)
      simp only [e1, e2, Bool.false_and, Bool.or_false, List.cons_beq_cons, Bool.not_false, Bool.and_true]
      rw [Bool.eq_iff_iff]
      simp [UInt8.lt_iff_toNat_lt]
      omega

set_option maxRecDepth 20000 in
set_option maxHeartbeats 2000000 in
theorem numeral_any (s : ByteArray) (hs : s.size ≤ 4000) (h0 : 0 < s.size) (w : World) :
    Calls Tryz.prog 68 #[.string s] w fun e w' => e = .returned (.int .i64 (numE s.data.toList)) ∧ w' = w := by
  obtain ⟨V, hV⟩ : ∃ V, numE s.data.toList = V := ⟨_, rfl⟩
  rw [hV]
  replace hV : Hid _ := hV
  go_enter Tryz.func68, Tryz.ntmps68
  go_wp2
  go_loop [3] (fun i => ∃ k : Nat, k ≤ s.size ∧ i = .int .i64 k ∧ ∀ i d, i < k → s.data.toList[i]? = some d → digB d = true) (fun i => s.size - (intOf i).toNat)
  case atStart => exact ⟨0, by omega, rfl, fun i d h => by omega⟩
  case round =>
    obtain ⟨k, hk, rfl, hno⟩ := hrel
    by_cases hlt : k < s.size
    · have hc : s.data.toList[k]? = some s[k] := byte_at hlt
      have hT := take_run digB s.data.toList k s[k] hc hno
      have hD := digit_any s[k] w
      have hlt' : (k : Int) < (s.size : Int) := by omega
      clear hc
      replace hT : Hid _ := hT
      replace hno : Hid _ := hno
      cases h2 : digB s[k]
      · rw [h2] at hD
        have hp : Hid (V = 2) := by
          show V = 2
          rw [← hV.out]
          have := hT.out.2 h2
          unfold numE
          rw [allRunB, if_pos (by simp only [decide_eq_false_iff_not]; rw [this]; simp; omega)]
        clear hT h2
        go_wp2_with (go_at_call 67; refine hD.mono ?_; rintro e w' ⟨rfl, rfl⟩)
        go_ret
        exact ⟨ret_int (by rw [hp.out]), rfl⟩
      · rw [h2] at hD
        have hp : Hid (∀ i d, i < k + 1 → s.data.toList[i]? = some d → digB d = true) := hT.out.1 h2
        clear hT h2
        go_wp2_with (go_at_call 67; refine hD.mono ?_; rintro e w' ⟨rfl, rfl⟩)
        go_round
        case rel => exact ⟨k + 1, by omega, by go_num, hp.out⟩
        case measure => simp [intOf]; omega
    · obtain rfl : k = s.size := by omega
      have hall : s.data.toList.all digB = true := by
        rw [List.all_eq_true]
        intro d hd
        obtain ⟨i, hi, hd⟩ := List.getElem_of_mem hd
        exact hno i d (by simpa using hi) (by rw [List.getElem?_eq_getElem hi, hd])
      obtain ⟨c, r, hl, hc, _⟩ := list_cons s h0
      have hlen : s.data.toList.length = s.size := by simp
      have hhead : s.data.toList.head? = some s[0] := by rw [hl, hc]; rfl
      have hbig := num_big s.data.toList hall
      rw [hlen, hhead] at hbig
      have hnum : V = if 1 < s.size ∧ s[0] = 48 then 2 else if 9223372036854775807 < numV s.data.toList then 6 else 0 := by
        rw [← hV.out]
        unfold numE
        rw [hall, if_neg (by simp), hlen, hhead]
        simp
      clear hno hall hl hc hlen hhead hV
      have hloop : ¬ (s.size : Int) < (s.size : Int) := by omega
      have h0' : (0 : Int) < (s.size : Int) := by omega
      by_cases k1 : 1 < s.size
      · have k1' : (1 : Int) < (s.size : Int) := by omega
        by_cases k2 : s[0] = 48
        · have k2' : ((s[0].toNat : Int) == 48) = true := by rw [k2]; rfl
          have hp : Hid (V = 2) := hnum.trans (if_pos ⟨k1, k2⟩)
          clear hnum hbig k2
          go_wp2
          go_ret
          exact ⟨ret_int (by rw [hp.out]), rfl⟩
        · have k2' : ((s[0].toNat : Int) == 48) = false := by
            have : s[0].toNat ≠ 48 := fun e => k2 (UInt8.toNat_inj.1 e)
            simp; omega
          have hb := hbig (fun h => k2 (by simpa using h.2))
          rw [if_neg (fun h => k2 h.2)] at hnum
          clear hbig k2
          by_cases k3 : 19 < s.size
          · have k3' : (19 : Int) < (s.size : Int) := by omega
            have hp : Hid (V = 6) := hnum.trans (if_pos (hb.2 (.inl k3)))
            clear hnum hb
            go_wp2
            go_ret
            exact ⟨ret_int (by rw [hp.out]), rfl⟩
          · have k3' : ¬ (19 : Int) < (s.size : Int) := by omega
            by_cases k4 : s.size = 19
            · have k4' : ((s.size : Int) == 19) = true := by simp [k4]
              have hm := more_eq s.data.toList mostL
              cases hl : Op.bytesLess mostL s.data.toList
              · have hp : Hid (V = 0) := hnum.trans (if_neg (fun h => by have := hb.1 h; rw [hl] at this; simp at this; omega))
                rw [hl] at hm
                have hm' : (!Op.bytesLess s.toList [57, 50, 50, 51, 51, 55, 50, 48, 51, 54, 56, 53, 52, 55, 55, 53, 56, 48, 55] && !(s.toList == [57, 50, 50, 51, 51, 55, 50, 48, 51, 54, 56, 53, 52, 55, 55, 53, 56, 48, 55])) = false := by
                  rw [ByteArray.toList_eq]
                  exact hm
                clear hnum hb hl hm
                go_wp2
                go_ret
                exact ⟨ret_int (by rw [hp.out]), rfl⟩
              · have hp : Hid (V = 6) := hnum.trans (if_pos (hb.2 (.inr ⟨k4, hl⟩)))
                rw [hl] at hm
                have hm' : (!Op.bytesLess s.toList [57, 50, 50, 51, 51, 55, 50, 48, 51, 54, 56, 53, 52, 55, 55, 53, 56, 48, 55] && !(s.toList == [57, 50, 50, 51, 51, 55, 50, 48, 51, 54, 56, 53, 52, 55, 55, 53, 56, 48, 55])) = true := by
                  rw [ByteArray.toList_eq]
                  exact hm
                clear hnum hb hl hm
                go_wp2
                go_ret
                exact ⟨ret_int (by rw [hp.out]), rfl⟩
            · have k4' : ((s.size : Int) == 19) = false := by simp; omega
              have hp : Hid (V = 0) := hnum.trans (if_neg (fun h => by have := hb.1 h; omega))
              clear hnum hb k4
              go_wp2
              go_ret
              exact ⟨ret_int (by rw [hp.out]), rfl⟩
      · have k1' : ¬ (1 : Int) < (s.size : Int) := by omega
        have k3' : ¬ (19 : Int) < (s.size : Int) := by omega
        have k4' : ((s.size : Int) == 19) = false := by simp; omega
        have hb := hbig (fun h => k1 h.1)
        rw [if_neg (fun h => k1 h.1)] at hnum
        have hp : Hid (V = 0) := hnum.trans (if_neg (fun h => by have := hb.1 h; omega))
        clear hnum hb hbig
        go_wp2
        go_ret
        exact ⟨ret_int (by rw [hp.out]), rfl⟩
end Go.Proofs.YtbofdfdmikhanaaGreatDoor
