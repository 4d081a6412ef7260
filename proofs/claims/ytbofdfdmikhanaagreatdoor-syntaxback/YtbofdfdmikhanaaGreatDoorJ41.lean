/- Walks of the document's own reading of tokens: all of a text. What Parse answers, in plain words; tokens that were scanned, in memory. -/
import Derived.Test.YtbofdfdmikhanaaGreatDoorJ40
import Derived.Test.YtbofdfdmikhanaaGreatDoorJ38
import Derived.Test.YtbofdfdmikhanaaGreatDoorJ39
namespace Go.Proofs.YtbofdfdmikhanaaGreatDoor
open Go.RowKit
open Go

theorem res19 {tm : Array Value} {W : World} {B : Nat} {v : Value} {c a : Int} (h : tm[3]?.getD undef = .pointer (some ⟨B, 0, none⟩)) (h2 : tm[2]?.getD undef = v) (hx : W.heap[B]? = some (.cells #[.int .i64 c, .int .i64 a] 27)) : (results Tryz.f15 tm).run Tryz.prog W = .ok (.tuple #[v, .agg #[.int .i64 c, .int .i64 a]]) W := by
  have c0 : W.cell? ⟨B, 0, none⟩ = some (.int .i64 c) := cell_block hx rfl
  have c1 : W.cell? ⟨B, 1, none⟩ = some (.int .i64 a) := cell_block hx rfl
  simp [results, Tryz.results15, go_sem, h, h2, c0, c1]

set_option maxRecDepth 20000 in
set_option maxHeartbeats 2000000 in
theorem rscan_big (s : ByteArray) (hs : 4000 < s.size) (w : World) : Calls Tryz.prog 15 #[.string s] w (Out w (.bad 1 0)) := by
  have hs' : (4000 : Int) < (s.size : Int) := by omega
  go_enter Tryz.func15, Tryz.ntmps15
  go_wp2
  exact bodyPost_ret (res19 rfl rfl (alloc_new _ _)) rfl ⟨⟨none, 0, 0, rfl, World.ownsRow_nil _ _ _ _⟩, ext_alloc (Below.refl _ _) _⟩

theorem gap1_blank {c : UInt8} {r : List UInt8} (h : c.toNat = 32 ∨ c.toNat = 10) : gap1 (c :: r) = 1 := by simp [gap1, h]
theorem gap1_note {c : UInt8} {r : List UInt8} (h : c.toNat = 45) (hr : r.head? = some 45) : gap1 (c :: r) = runN noteB (c :: r) := by
  simp only [gap1]
  rw [if_neg (by omega), if_pos ⟨h, hr⟩]
theorem gap1_none {c : UInt8} {r : List UInt8} (h1 : ¬ (c.toNat = 32 ∨ c.toNat = 10)) (h2 : ¬ (c.toNat = 45 ∧ r.head? = some 45)) : gap1 (c :: r) = 0 := by
  simp only [gap1]
  rw [if_neg h1, if_neg h2]

set_option maxRecDepth 20000 in
set_option maxHeartbeats 8000000 in
theorem rscan_ok (s : ByteArray) (hs : s.size ≤ 4000) (w : World) : Calls Tryz.prog 15 #[.string s] w (Out w (scanR 0 s.data.toList)) := by
  obtain ⟨i0, hi0, hz0, hz1, hz2⟩ := info_parts info44
  have hs' : ¬ (4000 : Int) < (s.size : Int) := by omega
  obtain ⟨R, hR⟩ : ∃ R, scanR 0 s.data.toList = R := ⟨_, rfl⟩
  rw [hR]
  have hlen : s.data.toList.length = s.size := by simp
  have hS0 : SI w (.slice none 0 0) [] (w.alloc zeroF) := ⟨World.ownsRow_nil _ _ _ _, alloc_new _ _, ext_alloc (Below.refl _ _) _⟩
  replace hlen : Hid _ := hlen
  replace hR : Hid _ := hR
  go_enter Tryz.func15, Tryz.ntmps15
  go_wp2
  go_loopw [4, 5] (fun v i wr => ∃ (k : Nat) (b : Option Addr) (n d : Nat) (ts : List Tok), k ≤ s.size ∧ i = .int .i64 k ∧ v = .slice b n d ∧ SI w v ts wr ∧ R = ScanR.pre ts (scanR k (s.data.toList.drop k)) ∧ ts.length ≤ k) (fun _ i _ => s.size - (intOf i).toNat)
  case atStart => exact ⟨0, none, 0, 0, [], Nat.zero_le _, rfl, rfl, hS0, by rw [ScanR.pre_nil, ← hR.out]; simp, Nat.zero_le _⟩
  case round =>
    clear hS0
    obtain ⟨k, b, n, d, ts, hk, rfl, rfl, hS, hRk, htl⟩ := hrel
    obtain ⟨c0, c1, f0, f1⟩ := in2 hS.r
    by_cases hlt : k < s.size
    · have hne : s.data.toList.drop k ≠ [] := by
        intro e
        have := congrArg List.length e
        simp at this
        omega
      have hd : s.data.toList.drop k = s[k] :: s.data.toList.drop (k + 1) := by
        rw [List.drop_eq_getElem_cons (by simpa using hlt)]; rfl
      have hk' : (k : Int) < (s.size : Int) := by omega
      by_cases h32 : s[k].toNat = 32
      · have h32' : ((s[k].toNat : Int) == 32) = true := by simp [h32]
        have hg1 : gap1 (s.data.toList.drop k) = 1 := by rw [hd]; exact gap1_blank (.inl h32)
        have hR1 : Hid (R = ScanR.pre ts (scanR (k + 1) (s.data.toList.drop (k + 1)))) := by
          show R = _
          rw [hRk, scanR_gap (by rw [hg1]; omega), hg1, List.drop_drop]
        clear hRk hg1 hd hne h32
        go_wp2
        go_roundw
        case rel => exact ⟨k + 1, _, _, _, ts, by omega, by go_num, rfl, hS, hR1.out, by omega⟩
        case measure => simp [intOf]; omega
      have h32' : ((s[k].toNat : Int) == 32) = false := by simp; omega
      by_cases h10 : s[k].toNat = 10
      · have h10' : ((s[k].toNat : Int) == 10) = true := by simp [h10]
        have hg1 : gap1 (s.data.toList.drop k) = 1 := by rw [hd]; exact gap1_blank (.inr h10)
        have hR1 : Hid (R = ScanR.pre ts (scanR (k + 1) (s.data.toList.drop (k + 1)))) := by
          show R = _
          rw [hRk, scanR_gap (by rw [hg1]; omega), hg1, List.drop_drop]
        clear hRk hg1 hd hne h32 h10
        go_wp2
        go_roundw
        case rel => exact ⟨k + 1, _, _, _, ts, by omega, by go_num, rfl, hS, hR1.out, by omega⟩
        case measure => simp [intOf]; omega
      have h10' : ((s[k].toNat : Int) == 10) = false := by simp; omega
      have hn12 : ¬ (s[k].toNat = 32 ∨ s[k].toNat = 10) := by omega
      clear h32 h10
      by_cases h45 : s[k].toNat = 45
      · have h45' : ((s[k].toNat : Int) == 45) = true := by simp [h45]
        by_cases hk1 : k + 1 < s.size
        · have hk1' : (k : Int) + 1 < (s.size : Int) := by omega
          have hhead : (s.data.toList.drop (k + 1)).head? = some s[k + 1] := by
            rw [List.drop_eq_getElem_cons (by simpa using hk1)]; rfl
          by_cases h45b : s[k + 1].toNat = 45
          · have h45b' : ((s[k + 1].toNat : Int) == 45) = true := by simp [h45b]
            have hg1 : gap1 (s.data.toList.drop k) = runN noteB (s.data.toList.drop k) := by
              rw [hd]; exact gap1_note h45 (by rw [hhead, UInt8.toNat_inj.1 (show s[k + 1].toNat = (45 : UInt8).toNat from h45b)])
            have hpos : 0 < runN noteB (s.data.toList.drop k) := by rw [hd]; simp [runN, noteB, h45]
            have hR1 : Hid (R = ScanR.pre ts (scanR (k + runN noteB (s.data.toList.drop k)) (s.data.toList.drop (k + runN noteB (s.data.toList.drop k))))) := by
              show R = _
              rw [hRk, scanR_gap (by rw [hg1]; omega), hg1, List.drop_drop]
            clear hRk hg1 hd hne h45 h45b hhead
            obtain ⟨m, hm⟩ : ∃ m, runN noteB (s.data.toList.drop k) = m := ⟨_, rfl⟩
            rw [hm] at hR1 hpos
            replace hm : Hid _ := hm
            go_wp2
            go_loop [5] (fun i => ∃ q : Nat, k ≤ q ∧ q ≤ s.size ∧ i = .int .i64 q ∧ ∀ i d, i < q - k → (s.data.toList.drop k)[i]? = some d → noteB d = true) (fun i => s.size - (intOf i).toNat)
            case atStart => exact ⟨k, by omega, by omega, by simp, fun i d h => by omega⟩
            case round =>
              obtain ⟨q, hq1, hq2, rfl, hno⟩ := hrel
              by_cases hq : q < s.size
              · have hq' : (q : Int) < (s.size : Int) := by omega
                have hc : (s.data.toList.drop k)[q - k]? = some s[q] := by
                  rw [drop_get, show k + (q - k) = q by omega]; exact byte_at hq
                have hT := take_run noteB (s.data.toList.drop k) (q - k) s[q] hc hno
                rw [hm.out] at hT
                by_cases hx : s[q].toNat = 10
                · have hx' : ((s[q].toNat : Int) == 10) = true := by simp [hx]
                  have hmm : m = q - k := hT.2 (by simp [noteB, hx])
                  have hR2 : Hid (R = ScanR.pre ts (scanR q (s.data.toList.drop q))) := by
                    have := hR1.out
                    rw [hmm, show k + (q - k) = q by omega] at this
                    exact this
                  have hkq : k < q := by omega
                  clear hT hc hno hR1 hx hmm
                  go_wp2
                  go_roundw
                  case rel => exact ⟨q, _, _, _, ts, by omega, rfl, rfl, hS, hR2.out, by omega⟩
                  case measure => simp [intOf]; omega
                · have hx' : ((s[q].toNat : Int) == 10) = false := by simp; omega
                  have hp : Hid (∀ i d, i < q + 1 - k → (s.data.toList.drop k)[i]? = some d → noteB d = true) := fun i d hi hd => hT.1 (by simp [noteB, hx]) i d (by omega) hd
                  clear hT hc hno hx
                  go_wp2
                  go_round
                  case rel => exact ⟨q + 1, by omega, by omega, by go_num, hp.out⟩
                  case measure => simp [intOf]; omega
              · have hq' : ¬ (q : Int) < (s.size : Int) := by omega
                have hmm : m = q - k := by
                  rw [← hm.out]
                  exact runN_eq noteB _ _ (by simp; omega) hno (fun c hc => by rw [drop_get, List.getElem?_eq_none (by simp; omega)] at hc; cases hc)
                have hR2 : Hid (R = ScanR.pre ts (scanR q (s.data.toList.drop q))) := by
                  have := hR1.out
                  rw [hmm, show k + (q - k) = q by omega] at this
                  exact this
                have hkq : k < q := by omega
                clear hno hR1 hmm
                go_wp2
                go_roundw
                case rel => exact ⟨q, _, _, _, ts, by omega, rfl, rfl, hS, hR2.out, by omega⟩
                case measure => simp [intOf]; omega
          · have h45b' : ((s[k + 1].toNat : Int) == 45) = false := by simp; omega
            have hgap : gap1 (s.data.toList.drop k) = 0 := by
              rw [hd]; exact gap1_none hn12 (fun h => h45b (by have := h.2; rw [hhead] at this; injection this with this; rw [this]; rfl))
            clear hd h45 h45b hhead hn12
            have hC := fun u => refToken_any s hs k hlt u
            cases ht : tokR (s.data.toList.drop k) using TokR.byCases with
            | bad e =>
              have hRb : Hid (R = .bad e k) := hRk.trans (by rw [scanR_bad hne hgap ht]; rfl)
              obtain ⟨hne0, _, _⟩ := bad_ne ht
              have hCb : ∀ u, Calls Tryz.prog 29 #[.string s, .int .i64 k] u fun x w' => (∃ k1 t p n, x = .returned (.tuple #[tokv k1 t p, .int .i64 n, .int .i64 e])) ∧ Below u.heap.size u w' := fun u => (hC u).mono fun x w' ⟨⟨k1, t, p, n, c, h1, h2⟩, h3⟩ => by
                rw [ht] at h2
                have h4 : c = e := h2
                subst h4
                exact ⟨⟨k1, t, p, n, h1⟩, h3⟩
              clear ht hRk hgap hne htl hC
              go_wp2_with (go_at_call 29; refine (hCb _).mono ?_; rintro e w2 ⟨⟨k1, t1, p1, n1, rfl⟩, hb2⟩; have hr2 := block_below hb2 hS.r; have hlt2 := block_lt hr2; obtain ⟨c0, c1, f0, f1⟩ := in2 hr2)
              refine bodyPost_ret (res19 rfl rfl (block_alloc _ (put2_same hr2))) rfl ?_
              rw [hRb.out]
              exact ⟨⟨none, 0, 0, rfl, World.ownsRow_nil _ _ _ _⟩, ext_alloc (put2_below _ _ (ext_trans hS.bl hb2) (Nat.le_refl _)) _⟩
            | tok k1 t1 n1 =>
              have hsz := tok_size ht
              have hl1 : (s.data.toList.drop k).length = s.size - k := by simp
              rw [hl1] at hsz
              have hRt := scanR_tok hne hgap ht k
              rw [List.drop_drop] at hRt
              rw [hRt, ScanR.pre_pre] at hRk
              have hCt : ∀ u, Calls Tryz.prog 29 #[.string s, .int .i64 k] u fun x w' => x = .returned (.tuple #[tokv k1 ⟨t1.toArray⟩ k, .int .i64 n1, .int .i64 0]) ∧ Below u.heap.size u w' := fun u => (hC u).mono fun x w' ⟨⟨k1, t, p, n, c, h1, h2⟩, h3⟩ => by
                rw [ht] at h2
                obtain ⟨rfl, rfl, rfl, rfl, rfl⟩ := h2
                exact ⟨h1, h3⟩
              have hn1 : ts.length + 1 ≤ maxLen := by unfold maxLen; omega
              have hb1 : (ts.length + 1) * 32 ≤ 140737488355328 := by omega
              replace hRk : Hid _ := hRk
              clear ht hgap hne hRt hl1 hC
              go_wp2_with (first | (go_at_call 29; refine (hCt _).mono ?_; rintro e w2 ⟨rfl, hb2⟩; have hr2 := block_below hb2 hS.r; obtain ⟨c0, c1, f0, f1⟩ := in2 hr2) | (at_builtin; refine Hid.out ?_))
              clear c0 c1 f0 f1 hr2 hCt
              obtain ⟨y, hy⟩ : ∃ y : Tok, y = ⟨k1, t1, k⟩ := ⟨_, rfl⟩
              obtain ⟨W, hW⟩ : ∃ W, (w2.alloc (tbx k1 ⟨t1.toArray⟩ k)).alloc (tbx k1 ⟨t1.toArray⟩ k) = W := ⟨_, rfl⟩
              have hnew : W.heap[w2.heap.size + 1]? = some (tbx y.k y.b (y.a : Nat)) := by
                subst hW hy
                have := alloc_new (w2.alloc (tbx k1 ⟨t1.toArray⟩ k)) (tbx k1 ⟨t1.toArray⟩ k)
                simp only [World.size_alloc] at this
                exact this
              have hSW : SI w (.slice b n d) ts W := by
                subst hW
                exact ((hS.on hb2).on (ext_alloc (Below.refl _ _) _)).on (ext_alloc (Below.refl _ _) _)
              have hszW : w.heap.size + 1 ≤ W.heap.size := block_lt hSW.r
              rw [hW]
              rw [← hy] at hRk
              clear hW hb2 hS hy
              refine Lib.hid ?_
              go_wp2_with (at_builtin; refine wpList_append_lies _ (by rfl) _ _ _ (by rfl) (w.heap.size + 1) 44 i0 _ 3 32 Tryz.underlying35 hi0 hz0 hz1 hz2 rfl (by omega) (.slice b n d) ts.length (flatT ts) (by rfl) hSW.own ⟨w2.heap.size + 1, 0, none⟩ 1 1 (trioT y) (by rfl) (by rfl) (newsT hnew) (by simp [Value.oneCell']) (by omega) hn1 hb1 hszW _ rfl ?_; intro g cap w5 hown1 hgrow hat1 hlt1; have hS5 := hSW.step hown1 hgrow; clear hown1 hgrow hat1 hlt1)
              go_roundw
              case rel => exact ⟨k + n1, _, _, _, ts ++ [y], by omega, by go_num, rfl, hS5, hRk.out, by simp; omega⟩
              case measure => simp [intOf]; omega
        · have hk1' : ¬ (k : Int) + 1 < (s.size : Int) := by omega
          have hgap : gap1 (s.data.toList.drop k) = 0 := by
            rw [hd]; exact gap1_none hn12 (fun h => by have := h.2; rw [List.drop_eq_nil_of_le (by rw [hlen.out]; omega)] at this; cases this)
          clear hd h45 hn12
          have hC := fun u => refToken_any s hs k hlt u
          cases ht : tokR (s.data.toList.drop k) using TokR.byCases with
          | bad e =>
            have hRb : Hid (R = .bad e k) := hRk.trans (by rw [scanR_bad hne hgap ht]; rfl)
            obtain ⟨hne0, _, _⟩ := bad_ne ht
            have hCb : ∀ u, Calls Tryz.prog 29 #[.string s, .int .i64 k] u fun x w' => (∃ k1 t p n, x = .returned (.tuple #[tokv k1 t p, .int .i64 n, .int .i64 e])) ∧ Below u.heap.size u w' := fun u => (hC u).mono fun x w' ⟨⟨k1, t, p, n, c, h1, h2⟩, h3⟩ => by
              rw [ht] at h2
              have h4 : c = e := h2
              subst h4
              exact ⟨⟨k1, t, p, n, h1⟩, h3⟩
            clear ht hRk hgap hne htl hC
            go_wp2_with (go_at_call 29; refine (hCb _).mono ?_; rintro e w2 ⟨⟨k1, t1, p1, n1, rfl⟩, hb2⟩; have hr2 := block_below hb2 hS.r; have hlt2 := block_lt hr2; obtain ⟨c0, c1, f0, f1⟩ := in2 hr2)
            refine bodyPost_ret (res19 rfl rfl (block_alloc _ (put2_same hr2))) rfl ?_
            rw [hRb.out]
            exact ⟨⟨none, 0, 0, rfl, World.ownsRow_nil _ _ _ _⟩, ext_alloc (put2_below _ _ (ext_trans hS.bl hb2) (Nat.le_refl _)) _⟩
          | tok k1 t1 n1 =>
            have hsz := tok_size ht
            have hl1 : (s.data.toList.drop k).length = s.size - k := by simp
            rw [hl1] at hsz
            have hRt := scanR_tok hne hgap ht k
            rw [List.drop_drop] at hRt
            rw [hRt, ScanR.pre_pre] at hRk
            have hCt : ∀ u, Calls Tryz.prog 29 #[.string s, .int .i64 k] u fun x w' => x = .returned (.tuple #[tokv k1 ⟨t1.toArray⟩ k, .int .i64 n1, .int .i64 0]) ∧ Below u.heap.size u w' := fun u => (hC u).mono fun x w' ⟨⟨k1, t, p, n, c, h1, h2⟩, h3⟩ => by
              rw [ht] at h2
              obtain ⟨rfl, rfl, rfl, rfl, rfl⟩ := h2
              exact ⟨h1, h3⟩
            have hn1 : ts.length + 1 ≤ maxLen := by unfold maxLen; omega
            have hb1 : (ts.length + 1) * 32 ≤ 140737488355328 := by omega
            replace hRk : Hid _ := hRk
            clear ht hgap hne hRt hl1 hC
            go_wp2_with (first | (go_at_call 29; refine (hCt _).mono ?_; rintro e w2 ⟨rfl, hb2⟩; have hr2 := block_below hb2 hS.r; obtain ⟨c0, c1, f0, f1⟩ := in2 hr2) | (at_builtin; refine Hid.out ?_))
            clear c0 c1 f0 f1 hr2 hCt
            obtain ⟨y, hy⟩ : ∃ y : Tok, y = ⟨k1, t1, k⟩ := ⟨_, rfl⟩
            obtain ⟨W, hW⟩ : ∃ W, (w2.alloc (tbx k1 ⟨t1.toArray⟩ k)).alloc (tbx k1 ⟨t1.toArray⟩ k) = W := ⟨_, rfl⟩
            have hnew : W.heap[w2.heap.size + 1]? = some (tbx y.k y.b (y.a : Nat)) := by
              subst hW hy
              have := alloc_new (w2.alloc (tbx k1 ⟨t1.toArray⟩ k)) (tbx k1 ⟨t1.toArray⟩ k)
              simp only [World.size_alloc] at this
              exact this
            have hSW : SI w (.slice b n d) ts W := by
              subst hW
              exact ((hS.on hb2).on (ext_alloc (Below.refl _ _) _)).on (ext_alloc (Below.refl _ _) _)
            have hszW : w.heap.size + 1 ≤ W.heap.size := block_lt hSW.r
            rw [hW]
            rw [← hy] at hRk
            clear hW hb2 hS hy
            refine Lib.hid ?_
            go_wp2_with (at_builtin; refine wpList_append_lies _ (by rfl) _ _ _ (by rfl) (w.heap.size + 1) 44 i0 _ 3 32 Tryz.underlying35 hi0 hz0 hz1 hz2 rfl (by omega) (.slice b n d) ts.length (flatT ts) (by rfl) hSW.own ⟨w2.heap.size + 1, 0, none⟩ 1 1 (trioT y) (by rfl) (by rfl) (newsT hnew) (by simp [Value.oneCell']) (by omega) hn1 hb1 hszW _ rfl ?_; intro g cap w5 hown1 hgrow hat1 hlt1; have hS5 := hSW.step hown1 hgrow; clear hown1 hgrow hat1 hlt1)
            go_roundw
            case rel => exact ⟨k + n1, _, _, _, ts ++ [y], by omega, by go_num, rfl, hS5, hRk.out, by simp; omega⟩
            case measure => simp [intOf]; omega
      · have h45' : ((s[k].toNat : Int) == 45) = false := by simp; omega
        have hgap : gap1 (s.data.toList.drop k) = 0 := by
          rw [hd]; exact gap1_none hn12 (fun h => h45 h.1)
        clear hd h45 hn12
        have hC := fun u => refToken_any s hs k hlt u
        cases ht : tokR (s.data.toList.drop k) using TokR.byCases with
        | bad e =>
          have hRb : Hid (R = .bad e k) := hRk.trans (by rw [scanR_bad hne hgap ht]; rfl)
          obtain ⟨hne0, _, _⟩ := bad_ne ht
          have hCb : ∀ u, Calls Tryz.prog 29 #[.string s, .int .i64 k] u fun x w' => (∃ k1 t p n, x = .returned (.tuple #[tokv k1 t p, .int .i64 n, .int .i64 e])) ∧ Below u.heap.size u w' := fun u => (hC u).mono fun x w' ⟨⟨k1, t, p, n, c, h1, h2⟩, h3⟩ => by
            rw [ht] at h2
            have h4 : c = e := h2
            subst h4
            exact ⟨⟨k1, t, p, n, h1⟩, h3⟩
          clear ht hRk hgap hne htl hC
          go_wp2_with (go_at_call 29; refine (hCb _).mono ?_; rintro e w2 ⟨⟨k1, t1, p1, n1, rfl⟩, hb2⟩; have hr2 := block_below hb2 hS.r; have hlt2 := block_lt hr2; obtain ⟨c0, c1, f0, f1⟩ := in2 hr2)
          refine bodyPost_ret (res19 rfl rfl (block_alloc _ (put2_same hr2))) rfl ?_
          rw [hRb.out]
          exact ⟨⟨none, 0, 0, rfl, World.ownsRow_nil _ _ _ _⟩, ext_alloc (put2_below _ _ (ext_trans hS.bl hb2) (Nat.le_refl _)) _⟩
        | tok k1 t1 n1 =>
          have hsz := tok_size ht
          have hl1 : (s.data.toList.drop k).length = s.size - k := by simp
          rw [hl1] at hsz
          have hRt := scanR_tok hne hgap ht k
          rw [List.drop_drop] at hRt
          rw [hRt, ScanR.pre_pre] at hRk
          have hCt : ∀ u, Calls Tryz.prog 29 #[.string s, .int .i64 k] u fun x w' => x = .returned (.tuple #[tokv k1 ⟨t1.toArray⟩ k, .int .i64 n1, .int .i64 0]) ∧ Below u.heap.size u w' := fun u => (hC u).mono fun x w' ⟨⟨k1, t, p, n, c, h1, h2⟩, h3⟩ => by
            rw [ht] at h2
            obtain ⟨rfl, rfl, rfl, rfl, rfl⟩ := h2
            exact ⟨h1, h3⟩
          have hn1 : ts.length + 1 ≤ maxLen := by unfold maxLen; omega
          have hb1 : (ts.length + 1) * 32 ≤ 140737488355328 := by omega
          replace hRk : Hid _ := hRk
          clear ht hgap hne hRt hl1 hC
          go_wp2_with (first | (go_at_call 29; refine (hCt _).mono ?_; rintro e w2 ⟨rfl, hb2⟩; have hr2 := block_below hb2 hS.r; obtain ⟨c0, c1, f0, f1⟩ := in2 hr2) | (at_builtin; refine Hid.out ?_))
          clear c0 c1 f0 f1 hr2 hCt
          obtain ⟨y, hy⟩ : ∃ y : Tok, y = ⟨k1, t1, k⟩ := ⟨_, rfl⟩
          obtain ⟨W, hW⟩ : ∃ W, (w2.alloc (tbx k1 ⟨t1.toArray⟩ k)).alloc (tbx k1 ⟨t1.toArray⟩ k) = W := ⟨_, rfl⟩
          have hnew : W.heap[w2.heap.size + 1]? = some (tbx y.k y.b (y.a : Nat)) := by
            subst hW hy
            have := alloc_new (w2.alloc (tbx k1 ⟨t1.toArray⟩ k)) (tbx k1 ⟨t1.toArray⟩ k)
            simp only [World.size_alloc] at this
            exact this
          have hSW : SI w (.slice b n d) ts W := by
            subst hW
            exact ((hS.on hb2).on (ext_alloc (Below.refl _ _) _)).on (ext_alloc (Below.refl _ _) _)
          have hszW : w.heap.size + 1 ≤ W.heap.size := block_lt hSW.r
          rw [hW]
          rw [← hy] at hRk
          clear hW hb2 hS hy
          refine Lib.hid ?_
          go_wp2_with (at_builtin; refine wpList_append_lies _ (by rfl) _ _ _ (by rfl) (w.heap.size + 1) 44 i0 _ 3 32 Tryz.underlying35 hi0 hz0 hz1 hz2 rfl (by omega) (.slice b n d) ts.length (flatT ts) (by rfl) hSW.own ⟨w2.heap.size + 1, 0, none⟩ 1 1 (trioT y) (by rfl) (by rfl) (newsT hnew) (by simp [Value.oneCell']) (by omega) hn1 hb1 hszW _ rfl ?_; intro g cap w5 hown1 hgrow hat1 hlt1; have hS5 := hSW.step hown1 hgrow; clear hown1 hgrow hat1 hlt1)
          go_roundw
          case rel => exact ⟨k + n1, _, _, _, ts ++ [y], by omega, by go_num, rfl, hS5, hRk.out, by simp; omega⟩
          case measure => simp [intOf]; omega
    · have hk' : ¬ (k : Int) < (s.size : Int) := by omega
      have hRe : Hid (R = .toks ts) := hRk.trans (by rw [List.drop_eq_nil_of_le (by rw [hlen.out]; omega), scanR_nil]; simp [ScanR.pre, ScanR.toks])
      clear hRk
      go_wp2
      refine bodyPost_ret (res19 rfl rfl (put2_same hS.r)) rfl ?_
      rw [hRe.out]
      exact ⟨⟨b, n, d, rfl, hS.out _ _⟩, put2_below _ _ hS.bl (Nat.le_refl _)⟩
end Go.Proofs.YtbofdfdmikhanaaGreatDoor
namespace Go.Proofs.YtbofdfdmikhanaaGreatDoor
open Go.RowKit
open Go

theorem scan_any (s : ByteArray) (w : World) (hE : ErrV w) : Calls Tryz.prog 12 #[.string s] w (Out w (scanAll s.data.toList)) := by
  have hl : s.data.toList.length = s.size := by simp
  unfold scanAll
  rw [hl]
  by_cases h : 4000 < s.size
  · rw [if_pos h]; exact scan_big s h w
  · rw [if_neg h]; exact scan_ok s (by omega) w hE
theorem rscan_any (s : ByteArray) (w : World) : Calls Tryz.prog 15 #[.string s] w (Out w (scanAll s.data.toList)) := by
  have hl : s.data.toList.length = s.size := by simp
  unfold scanAll
  rw [hl]
  by_cases h : 4000 < s.size
  · rw [if_pos h]; exact rscan_big s h w
  · rw [if_neg h]; exact rscan_ok s (by omega) w
theorem tokAt_of {base : Nat} {W : World} {b : Option Addr} {n d : Nat} {ts : List Tok} (h : W.ownsRow base 44 3 (.slice b n d) ts.length (flatT ts)) : n = ts.length ∧ ts.length ≤ d ∧ TokAt W b ts W.heap.size := by
  rcases h.2 with ⟨e, h0⟩ | ⟨g, cap, cur, e, _, hg, hcap, _, _, ht⟩
  · cases e
    have : ts = [] := List.length_eq_zero_iff.1 h0
    subst this
    exact ⟨rfl, Nat.le_refl _, .inl rfl⟩
  · cases e
    have hlt := (Array.getElem?_eq_some_iff.1 hg).1
    refine ⟨rfl, hcap, .inr ⟨g, rfl, hlt, hlt, fun j x hj i u hu => ?_⟩⟩
    have hi : i < 3 := by
      have := (List.getElem?_eq_some_iff.1 hu).1
      simpa using this
    have hjl : j < ts.length := (List.getElem?_eq_some_iff.1 hj).1
    have hf := flatT_get hj i hi
    rw [← ht, List.getElem?_take_of_lt (by omega)] at hf
    have hf2 : cur[j * 3 + i]? = (trioT x)[i]? := by simpa using hf
    have : (trioT x)[i]? = some u := hu
    rw [this] at hf2
    simp [World.cell?, hg, hf2]
theorem toks_len : ∀ (m : Nat) (l : List UInt8) (a : Nat), l.length ≤ m → (toksOf (scanR a l)).length ≤ l.length
  | 0, l, a, h => by
    obtain rfl : l = [] := List.eq_nil_of_length_eq_zero (by omega)
    rw [scanR_nil]; simp [toksOf]
  | m + 1, l, a, h => by
    by_cases h0 : l = []
    · subst h0; rw [scanR_nil]; simp [toksOf]
    by_cases h1 : gap1 l = 0
    · cases ht : tokR l using TokR.byCases with
      | bad e => rw [scanR_bad h0 h1 ht]; simp [toksOf]
      | tok k t n =>
        have hs := tok_size ht
        have ih := toks_len m (l.drop n) (a + n) (by simp; omega)
        rw [scanR_tok h0 h1 ht]
        simp at ih
        cases hq : scanR (a + n) (l.drop n) using ScanR.byCases with
        | bad e p => simp [ScanR.pre, toksOf]
        | toks us =>
          rw [hq] at ih
          simp [ScanR.pre, toksOf] at ih ⊢
          omega
    · have h2 := gap1_le l
      have ih := toks_len m (l.drop (gap1 l)) (a + gap1 l) (by simp; omega)
      rw [scanR_gap h1]
      simp at ih
      omega
theorem code_ne : ∀ (m : Nat) (l : List UInt8) (a : Nat) (e : Int) (p : Nat), l.length ≤ m → scanR a l = .bad e p → e ≠ 0
  | 0, l, a, e, p, h, hb => by
    obtain rfl : l = [] := List.eq_nil_of_length_eq_zero (by omega)
    rw [scanR_nil] at hb; cases hb
  | m + 1, l, a, e, p, h, hb => by
    by_cases h0 : l = []
    · subst h0; rw [scanR_nil] at hb; cases hb
    by_cases h1 : gap1 l = 0
    · cases ht : tokR l using TokR.byCases with
      | bad e' =>
        rw [scanR_bad h0 h1 ht] at hb
        cases hb
        simpa using (bad_ne ht).1
      | tok k t n =>
        have hs := tok_size ht
        have ih := code_ne m (l.drop n) (a + n) e p (by simp; omega)
        rw [scanR_tok h0 h1 ht] at hb
        cases hq : scanR (a + n) (l.drop n) using ScanR.byCases with
        | bad e' p' =>
          rw [hq] at hb
          simp [ScanR.pre] at hb
          exact ih (by rw [hq]; simp [hb])
        | toks us =>
          rw [hq] at hb
          simp [ScanR.pre] at hb
    · have h2 := gap1_le l
      rw [scanR_gap h1] at hb
      exact code_ne m (l.drop (gap1 l)) (a + gap1 l) e p (by simp; omega) hb
/-- Of a text: a fault and where it is, or the node. -/
def parseR (l : List UInt8) : (Int × Nat) ⊕ Nd :=
  match scanAll l with
  | .inl x => .inl x
  | .inr ts => match P 64012 12 (nd 1 []) 0 (ts.map pt) with
    | none => .inl (0, 0)
    | some (.inl r) => .inl (2, fpos ts l.length (ts.length - r.length))
    | some (.inr (n, _)) => if fitB n then .inr n else .inl (1, 0)
/-- What is known of tokens that were scanned. -/
theorem toks_of {l : List UInt8} {ts : List Tok} (h : scanAll l = .inr ts) : ts.length ≤ 4000 ∧ allV (ts.map pt) ∧ ∃ r, P 64012 12 (nd 1 []) 0 (ts.map pt) = some r := by
  unfold scanAll at h
  split at h
  · cases h
  rename_i h4
  have hl := toks_len l.length l 0 (Nat.le_refl _)
  rw [h] at hl
  have hl' : ts.length ≤ 4000 := by simp [toksOf] at hl; omega
  refine ⟨hl', (scan_valid l.length l 0 ts (Nat.le_refl _) h).1, ?_⟩
  obtain ⟨r, hr, _⟩ := tot_all 64012 12 (nd 1 []) 0 (ts.map pt) (by omega) (by simp [rank]; omega)
  exact ⟨r, hr⟩
theorem code_of {l : List UInt8} {e : Int} {p : Nat} (h : scanAll l = .inl (e, p)) : e ≠ 0 := by
  unfold scanAll at h
  split at h
  · cases h; decide
  · exact code_ne l.length l 0 e p (Nat.le_refl _) h
abbrev zagg : Value := .agg #[.int .i64 0, .string ⟨#[]⟩, .int .i64 0, .slice none 0 0]
/-- What a Parse answers. -/
def POut (w : World) (R : (Int × Nat) ⊕ Nd) (e : Ending) (w' : World) : Prop :=
  (match R with
  | .inl (c, a) => e = .returned (.tuple #[zagg, .agg #[.int .i64 c, .int .i64 (a : Nat)]])
  | .inr n => fitB n = true ∧ ∃ b cap, e = .returned (.tuple #[ndv n b cap, .agg #[.int .i64 0, .int .i64 0]]) ∧ NdV (fun g => w.heap.size ≤ g) w' n (ndv n b cap)) ∧ Below w.heap.size w w'
end Go.Proofs.YtbofdfdmikhanaaGreatDoor
