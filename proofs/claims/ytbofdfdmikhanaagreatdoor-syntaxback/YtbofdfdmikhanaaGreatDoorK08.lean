/- How long a node's text is. The program's Print of what is none. What is read of a program, written, and read again, in plain words. What a call of the reader leaves, in short. SyntaxBack, walked. A node that is handed in. -/
import Derived.Test.YtbofdfdmikhanaaGreatDoorK06
import Derived.Test.YtbofdfdmikhanaaGreatDoorJ09
import Derived.Lib.ItoaLen
import Derived.Test.YtbofdfdmikhanaaGreatDoorK07
import Derived.Test.YtbofdfdmikhanaaGreatDoorJ43
import Derived.Test.YtbofdfdmikhanaaGreatDoorJ39
import Derived.Test.YtbofdfdmikhanaaGreatDoorJ12
import Derived.Test.YtbofdfdmikhanaaGreatDoorRows
import Derived.ProofKit
import Derived.LaidMore
import Derived.OpenShut
import Derived.Lib.SmallJoins
import Derived.Deep.Slices
import Derived.Carry
namespace Go.Proofs.YtbofdfdmikhanaaGreatDoor
open Go

/-- A token of few bytes. -/
def shortT (p : PT) : Prop := (bytesOf p).length ≤ 400
theorem short_name {s : List UInt8} (h : nameB s = true) : shortT (wt s) := by
  simp only [nameB, Bool.and_eq_true, decide_eq_true_eq] at h
  unfold shortT bytesOf
  rw [if_neg (by show ¬ (1 : Int) = 3; decide)]
  show s.length ≤ 400
  omega
theorem short_num {u : Nat} (h : u ≤ 9223372036854775807) : shortT (2, digitsN u) := by
  unfold shortT bytesOf
  rw [if_neg (by show ¬ (2 : Int) = 3; decide)]
  show (digitsN u).length ≤ 400
  have h1 := Lib.itoa_length_le (u : Int) (by omega) (by omega)
  rw [Lib.itoa_nonneg] at h1
  unfold digitsN
  omega
theorem short_text {t : List UInt8} (h : quotB t = true) : shortT (3, t) := by
  simp only [quotB, Bool.and_eq_true, decide_eq_true_eq] at h
  unfold shortT bytesOf
  rw [if_pos rfl]
  simp
  omega
theorem short_op {o : Int} (h : (opOf o).isSome = true) : shortT (opT o) := by
  obtain ⟨p, hp⟩ := Option.isSome_iff_exists.1 h
  have h3 : p.1.length ≤ 3 := by
    unfold opOf at hp
    obtain ⟨q, hq, rfl⟩ := Option.map_eq_some_iff.1 hp
    have all : ∀ q ∈ opsL, q.1.length ≤ 3 := by decide
    exact all q (List.mem_of_find?_eq_some hq)
  obtain ⟨p1, p2⟩ := p
  unfold shortT opT
  rw [hp]
  dsimp only at h3 ⊢
  by_cases hc : o = 20 ∨ o = 21
  · simp [bytesOf, hc]; omega
  · simp [bytesOf, hc]; omega
def allH (ts : List PT) : Prop := ∀ p ∈ ts, shortT p
theorem allH_app {a b : List PT} (ha : allH a) (hb : allH b) : allH (a ++ b) := fun p hp => (List.mem_append.1 hp).elim (ha p) (hb p)
theorem allH_cons {p : PT} {l : List PT} (hp : shortT p) (hl : allH l) : allH (p :: l) := fun q hq => by
  simp at hq
  rcases hq with rfl | hq
  · exact hp
  · exact hl q hq
theorem allH_nil : allH [] := fun p hp => by simp at hp
theorem allH_par {l : List PT} (h : allH l) : allH (parT l) := allH_cons (by unfold shortT; decide) (allH_app h (allH_cons (by unfold shortT; decide) allH_nil))
theorem allH_at {x : Nd} (h : allH (showT x)) (n : Nat) : allH (atT n (info x)) := by
  unfold atT info
  simp only
  split
  · exact allH_par h
  · exact h
theorem allH_comma : ∀ {l : List Nd}, (∀ x ∈ l, allH (showT x)) → allH (commaT (l.map info))
  | [], _ => allH_nil
  | [x], h => h x (by simp)
  | x :: y :: l, h => by
    have ih := allH_comma (l := y :: l) (fun z hz => h z (by simp at hz ⊢; exact .inr hz))
    have e : commaT ((x :: y :: l).map info) = showT x ++ st S.cm :: commaT ((y :: l).map info) := by simp [commaT, info]
    rw [e]
    exact allH_app (h x (by simp)) (allH_cons (by unfold shortT; decide) ih)
theorem allH_round {l : List Nd} (h : ∀ x ∈ l, allH (showT x)) : allH (roundT (l.map info)) := by
  cases l with
  | nil => exact allH_cons (by unfold shortT; decide) (allH_cons (by unfold shortT; decide) allH_nil)
  | cons x l =>
    have e : roundT ((x :: l).map info) = st S.lp :: (commaT ((x :: l).map info) ++ [st S.rp]) := by simp [roundT]
    rw [e]
    exact allH_cons (by unfold shortT; decide) (allH_app (allH_comma h) (allH_cons (by unfold shortT; decide) allH_nil))
theorem allH_all {l : List Nd} (h : ∀ x ∈ l, allH (showT x)) : allH (allT (l.map info)) := by
  intro p hp
  simp only [allT, List.mem_flatMap, List.mem_map] at hp
  obtain ⟨q, ⟨x, hx, rfl⟩, hp⟩ := hp
  exact h x hx p hp

theorem show_short (x : Nd) : isN x → allH (showT x) := by
  refine nd_ind (m := fun x => isN x → allH (showT x)) (fun k t n kids ih h => ?_) x
  rw [isN] at h
  obtain ⟨h1, h2, h3, h4, h5, h6, h7, h8, h9⟩ := h
  rw [isN_go] at h9
  simp only [hasName] at h2 h3
  have hk : ∀ y ∈ kids, allH (showT y) := fun y hy => by
    obtain ⟨j, hj, hj'⟩ := List.getElem_of_mem hy
    exact ih y hy (h9 j y (by rw [List.getElem?_eq_getElem hj, hj'])).2
  have kw : ∀ s, shortT (wt s) → allH [wt s] := fun s h => allH_cons h allH_nil
  have ks : ∀ s, shortT (st s) → allH [st s] := fun s h => allH_cons h allH_nil
  unfold kidsOK at h1
  rcases h1 with rfl | rfl | ⟨rfl, hl⟩ | ⟨rfl | rfl | rfl | rfl | rfl | rfl | rfl | rfl, hl⟩ | ⟨rfl | rfl | rfl | rfl | rfl | rfl | rfl, hl⟩ | ⟨rfl, hl⟩ | ⟨rfl | rfl | rfl | rfl | rfl, hl⟩ | ⟨rfl, hl⟩ | ⟨rfl, hl⟩
  · have e : showT ⟨1, t, n, kids⟩ = allT (kids.map info) := by rw [showT_eq]; rfl
    rw [e]; exact allH_all hk
  · have e : showT ⟨4, t, n, kids⟩ = allT (kids.map info) := by rw [showT_eq]; rfl
    rw [e]; exact allH_all hk
  · obtain ⟨ps, b, rfl⟩ : ∃ ps b, kids = ps ++ [b] := ⟨kids.dropLast, kids.getLast (by intro e; rw [e] at hl; simp at hl), (List.dropLast_concat_getLast _).symm⟩
    have hsh : showT ⟨2, t, n, ps ++ [b]⟩ = [wt W.function_, wt t] ++ roundT (ps.map info) ++ showT b ++ [wt W.end_] := by
      rw [showT_eq]
      unfold comb
      rw [if_neg (by decide), if_pos rfl]
      simp [info]
    rw [hsh]
    exact allH_app (allH_app (allH_app (allH_cons (by unfold shortT; decide) (kw _ (short_name (h2 (by omega))))) (allH_round (fun x hx => hk x (by simp [hx])))) (hk b (by simp))) (kw _ (by unfold shortT; decide))
  all_goals first
    | (obtain rfl := List.length_eq_zero_iff.1 hl; rw [showT_eq]; exact kw _ (short_name (h2 (by omega))))
    | (obtain rfl := List.length_eq_zero_iff.1 hl; rw [showT_eq]; exact allH_cons (short_num (by have := h5 rfl; omega)) allH_nil)
    | (obtain rfl := List.length_eq_zero_iff.1 hl; rw [showT_eq]; exact allH_cons (short_text (h4.2 rfl)) allH_nil)
    | (obtain rfl := List.length_eq_zero_iff.1 hl; rw [showT_eq]; exact kw _ (by unfold shortT; decide))
    | (obtain rfl := List.length_eq_zero_iff.1 hl; rw [showT_eq]; exact allH_cons (by unfold shortT; decide) (ks _ (by unfold shortT; decide)))
    | skip
  · match kids, hl, hk with
    | [y], _, hk =>
      have hy := hk y (by simp)
      rw [show_local]
      exact allH_app (allH_app (allH_cons (by unfold shortT; decide) (allH_cons (short_name (h2 (by omega))) (ks _ (by unfold shortT; decide)))) hy) (ks _ (by unfold shortT; decide))
  · match kids, hl, hk with
    | [y], _, hk =>
      have hy := hk y (by simp)
      rw [show_do]
      exact allH_app hy (ks _ (by unfold shortT; decide))
  · match kids, hl, hk with
    | [y], _, hk =>
      have hy := hk y (by simp)
      rw [show_return]
      exact allH_cons (by unfold shortT; decide) (allH_app hy (ks _ (by unfold shortT; decide)))
  · match kids, hl, hk with
    | [y], _, hk =>
      have hy := hk y (by simp)
      rw [show_emit]
      exact allH_cons (by unfold shortT; decide) (allH_app hy (ks _ (by unfold shortT; decide)))
  · match kids, hl, hk with
    | [y], _, hk =>
      have hy := hk y (by simp)
      rw [show_not]
      exact allH_cons (by unfold shortT; decide) (allH_at hy 6)
  · match kids, hl, hk with
    | [y], _, hk =>
      have hy := hk y (by simp)
      rw [show_neg]
      exact allH_cons (by unfold shortT; decide) (allH_at hy 6)
  · match kids, hl, hk with
    | [y], _, hk =>
      have hy := hk y (by simp)
      rw [show_len]
      exact allH_cons (by unfold shortT; decide) (allH_at hy 6)
  · match kids, hl, hk with
    | [y, z, v], _, hk =>
      have hy := hk y (by simp)
      have hz := hk z (by simp)
      have hv := hk v (by simp)
      rw [show_for]
      exact allH_app (allH_app (allH_cons (by unfold shortT; decide) (allH_cons (short_name (h2 (by omega))) (ks _ (by unfold shortT; decide)))) hy) (allH_cons (by unfold shortT; decide) (allH_app hz (allH_cons (by unfold shortT; decide) (allH_app hv (kw _ (by unfold shortT; decide))))))
  · match kids, hl, hk with
    | [y, z], _, hk =>
      have hy := hk y (by simp)
      have hz := hk z (by simp)
      rw [show_set]
      exact allH_app hy (allH_cons (by unfold shortT; decide) (allH_app hz (ks _ (by unfold shortT; decide))))
  · match kids, hl, hk with
    | [y, z], _, hk =>
      have hy := hk y (by simp)
      have hz := hk z (by simp)
      rw [show_while]
      exact allH_cons (by unfold shortT; decide) (allH_app hy (allH_cons (by unfold shortT; decide) (allH_app hz (kw _ (by unfold shortT; decide)))))
  · match kids, hl, hk with
    | [y, z], _, hk =>
      have hy := hk y (by simp)
      have hz := hk z (by simp)
      rw [show_index]
      exact allH_app (allH_at hy 7) (allH_cons (by unfold shortT; decide) (allH_app hz (ks _ (by unfold shortT; decide))))
  · match kids, hl, hk with
    | [y, z], _, hk =>
      have hy := hk y (by simp)
      have hz := hk z (by simp)
      rw [show_op]
      exact allH_app (allH_at hy _) (allH_cons (short_op (h4.1 rfl)) (allH_at hz _))
  · match kids, hl, hk with
    | [y, z], _, hk =>
      have hy := hk y (by simp)
      have hz := hk z (by simp)
      rw [show_next]
      exact allH_cons (by unfold shortT; decide) (allH_cons (by unfold shortT; decide) (allH_app hy (allH_cons (by unfold shortT; decide) (allH_app hz (ks _ (by unfold shortT; decide))))))
  · match kids, hl, hk with
    | [y, z], _, hk =>
      have hy := hk y (by simp)
      have hz := hk z (by simp)
      rw [show_if2]
      exact allH_cons (by unfold shortT; decide) (allH_app hy (allH_cons (by unfold shortT; decide) (allH_app hz (kw _ (by unfold shortT; decide)))))
    | [y, z, v], _, hk =>
      have hy := hk y (by simp)
      have hz := hk z (by simp)
      have hv := hk v (by simp)
      rw [show_if3]
      exact allH_cons (by unfold shortT; decide) (allH_app hy (allH_cons (by unfold shortT; decide) (allH_app hz (allH_app (allH_cons (by unfold shortT; decide) hv) (kw _ (by unfold shortT; decide))))))
  · match kids, hl, hk with
    | y :: l, _, hk =>
      rw [show_call]
      exact allH_app (allH_at (hk y (by simp)) 7) (allH_round (fun x hx => hk x (by simp [hx])))

theorem text_short : ∀ ts : List PT, allH ts → (textT ts).length ≤ 401 * ts.length
  | [], _ => by simp [textT]
  | [p], h => by
    have := h p (by simp)
    unfold shortT at this
    simp [textT]
    omega
  | p :: q :: l, h => by
    have h1 := h p (by simp)
    have h2 := text_short (q :: l) (fun x hx => h x (by simp at hx ⊢; exact .inr hx))
    unfold shortT at h1
    rw [textT]
    simp at h2 ⊢
    omega
theorem text_le {x : Nd} (h : isN x) (hm : manyN x ≤ 600) : (textT (showT x)).length ≤ 10000000 := by
  have h1 := text_short _ (show_short x h)
  have h2 := show_len_le x
  omega
end Go.Proofs.YtbofdfdmikhanaaGreatDoor
namespace Go.Proofs.YtbofdfdmikhanaaGreatDoor
open Go.RowKit
open Go

set_option maxRecDepth 20000 in
set_option maxHeartbeats 1000000 in
theorem print_big (n : Nd) (hf : fitB n = false) (S : Nat → Prop) (b : Option Addr) (cap : Nat) (w : World) (hN : NdV S w n (ndv n b cap)) : Calls Tryz.prog 10 #[ndv n b cap] w fun e w' => e = .returned (.tuple #[sk [], .int .i64 1]) ∧ Below w.heap.size w w' := by
  have hb0 := ext_alloc (Below.refl w.heap.size w) (nbx n b cap)
  have g0 := alloc_new w (nbx n b cap)
  obtain ⟨U, hU⟩ : ∃ U, w.alloc (nbx n b cap) = U := ⟨_, rfl⟩
  rw [hU] at hb0 g0
  replace hU : w.alloc (.cells #[.int .i64 n.k, sk n.t, .int .i64 n.n, .slice b n.kids.length cap] 24) = U := hU
  have hFt := fits_any S n b cap U (hN.below hb0)
  rw [hf] at hFt
  obtain ⟨c0, c1, c2, c3, f0, f1, f2, f3⟩ := in4 g0
  clear hf
  go_enter Tryz.func10, Tryz.ntmps10
  go_wp2_with (go_at_call 14; refine hFt.mono ?_; rintro e w1 ⟨rfl, hb1⟩)
  go_ret2
  exact ⟨rfl, ext_trans hb0 hb1⟩
set_option maxRecDepth 20000 in
set_option maxHeartbeats 2000000 in
theorem print_form (n : Nd) (hf : fitB n = true) (hu : ¬ isK 1 n) (hok : okN n) (S : Nat → Prop) (b : Option Addr) (cap : Nat) (w : World) (hE : ErrV w) (hsp : SpTab w) (hN : NdV S w n (ndv n b cap)) : Calls Tryz.prog 10 #[ndv n b cap] w fun e w' => e = .returned (.tuple #[sk [], .int .i64 2]) ∧ Below w.heap.size w w' := by
  have hb0 := ext_alloc (Below.refl w.heap.size w) (nbx n b cap)
  have g0 := alloc_new w (nbx n b cap)
  obtain ⟨U, hU⟩ : ∃ U, w.alloc (nbx n b cap) = U := ⟨_, rfl⟩
  rw [hU] at hb0 g0
  replace hU : w.alloc (.cells #[.int .i64 n.k, sk n.t, .int .i64 n.n, .slice b n.kids.length cap] 24) = U := hU
  have hFt := fits_any S n b cap U (hN.below hb0)
  rw [hf] at hFt
  have hWn := fun u (hb : Below w.heap.size w u) => newWords_any u (hsp.below hb)
  have hAu := ask_u n
  obtain ⟨c0, c1, c2, c3, f0, f1, f2, f3⟩ := in4 g0
  have hqu : Hid (¬ isK 1 n) := hu
  clear hu hf
  go_enter Tryz.func10, Tryz.ntmps10
  go_wp2_with (first | (go_at_call 14; refine hFt.mono ?_; rintro e w1 ⟨rfl, hb1⟩; have hbw1 := ext_trans hb0 hb1; have g1 := block_below hb1 g0; obtain ⟨c0, c1, c2, c3, f0, f1, f2, f3⟩ := in4 g1) | (go_at_call 18; refine (hWn _ hbw1).mono ?_; rintro e w2 ⟨m1, m2, m3, m4, m5, rfl, hWd, hb2⟩; have hbw2 := ext_trans hbw1 hb2; have g2 := block_below hb2 g1; refine Hid.out ?_))
  obtain ⟨m, hme⟩ : ∃ m : Wm, m = ⟨m1, m2, m3, m4, m5⟩ := ⟨_, rfl⟩
  have hWE2 : WE m w2 := by rw [hme]; exact ⟨⟨_, hWd⟩, hE.on hbw2⟩
  have hbA := ext_alloc (Below.refl w2.heap.size w2) (wrb m none 0 0)
  have gA := block_below hbA g2
  obtain ⟨B, hB⟩ : ∃ B, w2.heap.size = B := ⟨_, rfl⟩
  obtain ⟨A, hA⟩ : ∃ A, w2.alloc (wrb m none 0 0) = A := ⟨_, rfl⟩
  rw [hA] at hbA gA
  have hN2 := hN.below hbw2
  have hu1 := Ans.not (hAu m S b cap A (hWE2.on hbA) hok (hN2.below hbA)) hqu.out
  rw [show m.v = .agg #[.map (some m1), .map (some m2), .map (some m3), .map (some m4), .map (some m5)] by rw [hme]] at hu1
  replace hA : w2.alloc (.cells #[.map (some m1), .map (some m2), .map (some m3), .map (some m4), .map (some m5), .slice none 0 0] 54) = A := by rw [← hA, hme]
  clear hFt hWn hAu hWd
  replace hA : Hid _ := hA
  replace hB : Hid _ := hB
  obtain ⟨z0, z1, z2, z3, z4, z5, z6, z7⟩ := in4a g2
  refine Lib.hid ?_
  go_wp2_with (go_at_call 19; refine Hid.out ?_)
  have hA' := hA.out
  have hB' := hB.out
  rw [hA', hB']
  clear hA hB hA' hB'
  refine Lib.hid ?_
  refine hu1.mono ?_
  rintro e w3 ⟨rfl, hb3⟩
  have hb3w := ext_trans (ext_trans hbw2 hbA) hb3
  go_wp2
  go_ret2
  exact ⟨rfl, hb3w⟩
end Go.Proofs.YtbofdfdmikhanaaGreatDoor
namespace Go.Proofs.YtbofdfdmikhanaaGreatDoor
open Go.RowKit
open Go

theorem Q_of {tag : Nat} {x : Nd} {a : Nat} {l : List PT} {r : List PT ⊕ (Nd × List PT)} (f : Nat) (h : P f tag x a l = some r) : Q tag x a l r := ⟨f, h⟩
theorem parse_inr {l : List UInt8} {n : Nd} (h : parseR l = .inr n) : ∃ ts q, scanAll l = .inr ts ∧ P 64012 12 (nd 1 []) 0 (ts.map pt) = some (.inr (n, q)) ∧ fitB n = true := by
  have hf := parse_fit h
  unfold parseR at h
  split at h
  · cases h
  · rename_i ts hs
    split at h
    · cases h
    · cases h
    · rename_i m q hP
      cases hm : fitB m with
      | true => rw [hm, if_pos rfl] at h; cases h; exact ⟨ts, q, hs, hP, hm⟩
      | false => rw [hm, if_neg (by decide)] at h; cases h
theorem parse_code {l : List UInt8} {c : Int} {a : Nat} (h : parseR l = .inl (c, a)) : c ≠ 0 := by
  unfold parseR at h
  split at h
  · rename_i x hs
    cases h
    exact code_of hs
  · rename_i ts hs
    obtain ⟨_, _, r, hr⟩ := toks_of hs
    rw [hr] at h
    cases r with
    | inl q => cases h; decide
    | inr p =>
      obtain ⟨m, q⟩ := p
      dsimp only at h
      split at h
      · cases h
      · cases h; decide
theorem scan_text_of {n : Nd} (hn : isN n) (hl : (textT (showT n)).length ≤ 4000) : ∃ ts, scanAll (textT (showT n)) = .inr ts ∧ ts.map pt = showT n := by
  obtain ⟨us, h1, h2⟩ := print_scan hn
  refine ⟨us, ?_, h2⟩
  unfold scanAll
  rw [if_neg (by omega)]
  exact h1
theorem parse_of {l : List UInt8} {ts : List Tok} {n : Nd} (hs : scanAll l = .inr ts) (ht : ts.map pt = showT n) (hn : isN n) (hk : n.k = 1) (hf : fitB n = true) : parseR l = .inr n := by
  obtain ⟨_, _, r, hr⟩ := toks_of hs
  have hq := unit_read hn hk
  rw [ht] at hr
  have e := Q_det (Q_of _ hr) hq
  subst e
  unfold parseR
  rw [hs]
  dsimp only
  rw [ht, hr]
  dsimp only
  rw [hf, if_pos rfl]
theorem parse_again {l : List UInt8} {n : Nd} (h : parseR l = .inr n) : isK 1 n ∧ (textT (showT n)).length ≤ 2 * l.length ∧ l.length ≤ 4000 ∧ ((textT (showT n)).length ≤ 4000 → parseR (textT (showT n)) = .inr n) := by
  obtain ⟨ts, q, hs, hP, hf⟩ := parse_inr h
  have hs' := hs
  unfold scanAll at hs'
  split at hs'
  · cases hs'
  rename_i h4
  obtain ⟨hv, hc⟩ := scan_valid l.length l 0 ts (Nat.le_refl _) hs'
  obtain ⟨h1, h2, h3⟩ := unit_sound (Q_of _ hP) hv
  refine ⟨⟨h1, h2⟩, Nat.le_trans h3 hc, by omega, fun h5 => ?_⟩
  obtain ⟨us, h6, h7⟩ := scan_text_of h1 h5
  exact parse_of h6 h7 h1 h2 hf
/-- function f()end -/
def knownL : List UInt8 := [102, 117, 110, 99, 116, 105, 111, 110, 32, 102, 40, 41, 101, 110, 100]
def knownN : Nd := ⟨1, [], 0, [⟨2, [102], 0, [⟨4, [], 0, []⟩]⟩]⟩
theorem known_is : isK 1 knownN := by
  refine isk1.2 ⟨⟨rfl, rfl⟩, fun y hy => ?_⟩
  simp at hy
  subst hy
  refine isk2.2 ⟨⟨rfl, by decide⟩, by simp, by simp, fun y hy => ?_⟩
  simp at hy
  subst hy
  exact isk4.2 ⟨⟨rfl, rfl⟩, by simp⟩
theorem known_text : textT (showT knownN) = [102, 117, 110, 99, 116, 105, 111, 110, 32, 102, 32, 40, 32, 41, 32, 101, 110, 100] := by decide
theorem known_scan : scanAll knownL = .inr [⟨1, [102, 117, 110, 99, 116, 105, 111, 110], 0⟩, ⟨1, [102], 9⟩, ⟨4, [40], 10⟩, ⟨4, [41], 11⟩, ⟨1, [101, 110, 100], 12⟩] := by kernel_rfl
theorem known_fit : fitB knownN = true := by decide
theorem known_parse : parseR knownL = .inr knownN := parse_of known_scan (by decide) known_is.1 known_is.2 known_fit
end Go.Proofs.YtbofdfdmikhanaaGreatDoor
namespace Go.Proofs.YtbofdfdmikhanaaGreatDoor
open Go.RowKit
open Go

/-- What a Parse of such a text answers. -/
def PaC (s : List UInt8) (n : Nd) (w : World) : Prop := ∀ u, Below w.heap.size w u → Calls Tryz.prog 7 #[sk s] u fun e w' => ∃ b cap, e = .returned (.tuple #[ndv n b cap, .agg #[.int .i64 0, .int .i64 0]]) ∧ NdV (fun g => u.heap.size ≤ g) w' n (ndv n b cap) ∧ Below u.heap.size u w'
/-- What a Print of such a node answers. -/
def PrC (n : Nd) (t : List UInt8) (c : Int) (w : World) : Prop := ∀ u (S : Nat → Prop) b cap, Below w.heap.size w u → NdV S u n (ndv n b cap) → Calls Tryz.prog 10 #[ndv n b cap] u fun e w' => e = .returned (.tuple #[sk t, .int .i64 c]) ∧ Below u.heap.size u w'
abbrev ftb (c a : Int) : Obj := .cells #[.int .i64 c, .int .i64 a] 27
theorem pac_of {l : List UInt8} {n : Nd} (h : parseR l = .inr n) (w : World) (hE : ErrV w) (hsp : SpTab w) : PaC l n w := fun u hb => by
  have := parse_any ⟨l.toArray⟩ u (hE.on hb) (hsp.below hb)
  rw [show (⟨l.toArray⟩ : ByteArray).data.toList = l by simp, h] at this
  exact pout_node this
end Go.Proofs.YtbofdfdmikhanaaGreatDoor
namespace Go.Proofs.YtbofdfdmikhanaaGreatDoor
open Go.RowKit
open Go

set_option maxRecDepth 20000 in
set_option maxHeartbeats 1000000 in
theorem back_no (n : Nd) (c : Int) (hc : (c == 0) = false) (b : Option Addr) (cap : Nat) (w : World) (hp : ∀ u, Below w.heap.size w u → Calls Tryz.prog 10 #[ndv n b cap] u fun e w' => e = .returned (.tuple #[sk [], .int .i64 c]) ∧ Below u.heap.size u w') : Calls Tryz.prog 5 #[ndv n b cap] w fun e w' => e = .returned (.bool true) ∧ Below w.heap.size w w' := by
  have hb0 := ext_alloc (Below.refl w.heap.size w) (nbx n b cap)
  have g0 := alloc_new w (nbx n b cap)
  obtain ⟨U, hU⟩ : ∃ U, w.alloc (nbx n b cap) = U := ⟨_, rfl⟩
  rw [hU] at hb0 g0
  replace hU : w.alloc (.cells #[.int .i64 n.k, sk n.t, .int .i64 n.n, .slice b n.kids.length cap] 24) = U := hU
  obtain ⟨c0, c1, c2, c3, f0, f1, f2, f3⟩ := in4 g0
  go_enter Tryz.func5, Tryz.ntmps5
  go_wp2_with (go_at_call 10; refine (hp _ hb0).mono ?_; rintro e w1 ⟨rfl, hb1⟩)
  go_ret
  exact ⟨rfl, ext_trans hb0 hb1⟩
set_option maxRecDepth 20000 in
set_option maxHeartbeats 1000000 in
theorem back_yes (n : Nd) (tx : List UInt8) (S : Nat → Prop) (b : Option Addr) (cap : Nat) (w : World) (hm : manyN n ≤ 600) (hN : NdV S w n (ndv n b cap)) (hp : ∀ u, Below w.heap.size w u → Calls Tryz.prog 10 #[ndv n b cap] u fun e w' => e = .returned (.tuple #[sk tx, .int .i64 0]) ∧ Below u.heap.size u w') (h4 : PaC tx n w) : Calls Tryz.prog 5 #[ndv n b cap] w fun e w' => e = .returned (.bool true) ∧ Below w.heap.size w w' := by
  have hb0 := ext_alloc (Below.refl w.heap.size w) (nbx n b cap)
  have g0 := alloc_new w (nbx n b cap)
  obtain ⟨U, hU⟩ : ∃ U, w.alloc (nbx n b cap) = U := ⟨_, rfl⟩
  rw [hU] at hb0 g0
  replace hU : w.alloc (.cells #[.int .i64 n.k, sk n.t, .int .i64 n.n, .slice b n.kids.length cap] 24) = U := hU
  obtain ⟨c0, c1, c2, c3, f0, f1, f2, f3⟩ := in4 g0
  go_enter Tryz.func5, Tryz.ntmps5
  go_wp2_with (first | (go_at_call 7; refine (h4 _ hb1w).mono ?_; rintro e w2 ⟨b2, cap2, rfl, hN2, hb2⟩; refine Hid.out ?_) | (go_at_call 10; refine (hp _ hb0).mono ?_; rintro e w1 ⟨rfl, hb1⟩; have hb1w := ext_trans hb0 hb1; have g1 := block_below hb1 g0; obtain ⟨c0, c1, c2, c3, f0, f1, f2, f3⟩ := in4 g1))
  have hb2w := ext_trans hb1w hb2
  have g2 := block_below hb2 g1
  obtain ⟨g3, g4⟩ := new2 w2 (nbx n b2 cap2) (ftb 0 0)
  have hbv := below2 w2 (nbx n b2 cap2) (ftb 0 0)
  have g2' := block_below hbv g2
  have hM1 := (hN.below hb2w).below hbv
  have hM2 := hN2.below hbv
  have hbV := ext_trans hb2w hbv
  obtain ⟨V, hV⟩ : ∃ V, (w2.alloc (nbx n b2 cap2)).alloc (ftb 0 0) = V := ⟨_, rfl⟩
  rw [hV] at g3 g4 g2' hM1 hM2 hbV
  replace hV : (w2.alloc (.cells #[.int .i64 n.k, sk n.t, .int .i64 n.n, .slice b2 n.kids.length cap2] 24)).alloc (.cells #[.int .i64 0, .int .i64 0] 27) = V := hV
  have y0 : ((w2.alloc (.cells #[.int .i64 n.k, sk n.t, .int .i64 n.n, .slice b2 n.kids.length cap2] 24)).alloc (.cells #[.int .i64 0, .int .i64 0] 27)).cell? ⟨w.heap.size, 0, none⟩ = some (.int .i64 n.k) := by rw [hV]; exact cell_block g2' rfl
  have y1 : ((w2.alloc (.cells #[.int .i64 n.k, sk n.t, .int .i64 n.n, .slice b2 n.kids.length cap2] 24)).alloc (.cells #[.int .i64 0, .int .i64 0] 27)).cell? ⟨w.heap.size, 1, none⟩ = some (sk n.t) := by rw [hV]; exact cell_block g2' rfl
  have y2 : ((w2.alloc (.cells #[.int .i64 n.k, sk n.t, .int .i64 n.n, .slice b2 n.kids.length cap2] 24)).alloc (.cells #[.int .i64 0, .int .i64 0] 27)).cell? ⟨w.heap.size, 2, none⟩ = some (.int .i64 n.n) := by rw [hV]; exact cell_block g2' rfl
  have y3 : ((w2.alloc (.cells #[.int .i64 n.k, sk n.t, .int .i64 n.n, .slice b2 n.kids.length cap2] 24)).alloc (.cells #[.int .i64 0, .int .i64 0] 27)).cell? ⟨w.heap.size, 3, none⟩ = some (.slice b n.kids.length cap) := by rw [hV]; exact cell_block g2' rfl
  clear hN hN2 hb2 hbv g2 hp h4
  replace hV : Hid _ := hV
  refine Lib.hid ?_
  go_wp2_with (go_at_call 9; refine Hid.out ?_)
  have hV' := hV.out
  rw [hV']
  clear hV hV' y0 y1 y2 y3
  refine Lib.hid ?_
  refine (same_any n _ _ b b2 cap cap2 V hm hM1 hM2).mono ?_
  rintro e w5 ⟨rfl, hb5⟩
  go_wp2
  go_ret
  exact ⟨rfl, ext_trans hbV hb5⟩
theorem back_any (n : Nd) (hok : fitB n = true → okN n) (S : Nat → Prop) (b : Option Addr) (cap : Nat) (w : World) (hE : ErrV w) (hsp : SpTab w) (hp : Lib.TabIs Tryz.prog w "internal/strconv.uint64pow10" .u64 Lib.pow10Tab) (hN : NdV S w n (ndv n b cap)) : Calls Tryz.prog 5 #[ndv n b cap] w fun e w' => e = .returned (.bool true) ∧ Below w.heap.size w w' := by
  cases hf : fitB n with
  | false => exact back_no n 1 (by decide) b cap w (fun u hb => print_big n hf S b cap u (hN.below hb))
  | true =>
    have hm : manyN n ≤ 600 := by have := hf; unfold fitB at this; exact (of_decide_eq_true this).2
    by_cases hu : isK 1 n
    · have hpr := fun u (hb : Below w.heap.size w u) => print_yes n hf hu S b cap u (hE.on hb) (hsp.below hb) (Go.Joins.tab_stays (g := 5) (by kernel_rfl) hp hb (Nat.le_refl _)) (hN.below hb) (text_le hu.1 hm)
      by_cases h4 : 4000 < (textT (showT n)).length
      · rw [if_pos h4, if_pos h4] at hpr
        exact back_no n 1 (by decide) b cap w hpr
      · rw [if_neg h4, if_neg h4] at hpr
        obtain ⟨ts, h6, h7⟩ := scan_text_of hu.1 (by omega)
        exact back_yes n _ S b cap w hm hN hpr (pac_of (parse_of h6 h7 hu.1 hu.2 hf) w hE hsp)
    · exact back_no n 2 (by decide) b cap w (fun u hb => print_form n hf hu (hok hf) S b cap u (hE.on hb) (hsp.below hb) (hN.below hb))
end Go.Proofs.YtbofdfdmikhanaaGreatDoor
namespace Go.Proofs.YtbofdfdmikhanaaGreatDoor
open Go.ChangeShapes Go.WideShapes Go.ChangeAt Go.WideMaps Go.WideElems Go.RowKit Go.Joins Go.Deep
open Go

/-- Its texts can be held, its numbers are i64. -/
def okT : Nd → Prop
  | ⟨_, t, n, kids⟩ => t.length ≤ 1000000000000000000 ∧ -9223372036854775808 ≤ n ∧ n ≤ 9223372036854775807 ∧ go kids
where go : List Nd → Prop
  | [] => True
  | x :: l => okT x ∧ go l
theorem okT_go : ∀ (l : List Nd), okT.go l ↔ ∀ x ∈ l, okT x
  | [] => by simp [okT.go]
  | x :: l => by rw [okT.go, okT_go l]; simp
theorem mlen2 : ∀ (l : List Nd), l.length ≤ manyN.go l ∧ ∀ x ∈ l, manyN x ≤ manyN.go l
  | [] => by simp [manyN.go]
  | x :: l => by
    have ih := mlen2 l
    have h1 : 1 ≤ manyN x := by obtain ⟨k, t, n, kids⟩ := x; rw [manyN]; omega
    rw [manyN.go]
    refine ⟨by simp; omega, fun y hy => ?_⟩
    rcases List.mem_cons.1 hy with rfl | hy
    · omega
    · have := ih.2 y hy; omega
theorem okN_okT (n : Nd) : okT n → manyN n ≤ 600 → okN n := by
  refine nd_ind (m := fun n => okT n → manyN n ≤ 600 → okN n) (fun k t n kids ih h hm => ?_) n
  rw [okT, okT_go] at h
  rw [manyN] at hm
  have h2 := mlen2 kids
  rw [okN, okN_go]
  exact ⟨h.1, h.2.1, h.2.2.1, by omega, fun x hx => ih x hx (h.2.2.2 x hx) (by have := h2.2 x hx; omega)⟩

theorem cells24 : Tryz.prog.cellsOf 24 = 4 := by kernel_rfl
theorem cells2 : Tryz.prog.cellsOf 2 = 1 := by kernel_rfl
theorem cells3 : Tryz.prog.cellsOf 3 = 1 := by kernel_rfl
theorem cells9 : Tryz.prog.cellsOf 9 = 1 := by kernel_rfl
theorem cells22 : Tryz.prog.cellsOf 22 = 1 := by kernel_rfl
theorem wf64 {n : Int} (h : (Lit.int .i64 n).wf = true) : -9223372036854775808 ≤ n ∧ n ≤ 9223372036854775807 := by
  have h' : (decide ((-9223372036854775808 : Int) ≤ n) && decide (n ≤ 9223372036854775807)) = true := h
  simpa using h'

theorem addr_of {W : World} {a : Addr} {v : Value} (h : W.cell? a = some v) : a = ⟨a.block, a.off, none⟩ := by
  obtain ⟨b, o, s⟩ := a
  cases s with
  | none => rfl
  | some s =>
    unfold World.cell? at h
    split at h <;> simp at h
theorem weights_all {H : Type} (P : Program) (e : TypeId) : ∀ (l : List (DataW H)) (d : DataW H), d ∈ l → ∀ x ∈ d.weights P e, x ∈ DataW.weightsAll P e l
  | [], _, h, _, _ => by cases h
  | y :: l, d, h, x, hx => by
    rw [DataW.weightsAll]
    rcases List.mem_cons.1 h with rfl | h
    · exact List.mem_append_left _ hx
    · exact List.mem_append_right _ (weights_all P e l d h x hx)

set_option maxRecDepth 20000 in
theorem open_cells {H : Type} {enc : TypeId × Value → H} {W : World} : ∀ (k : Nat) {fuel : Nat} {cs : List Value} {y : DataW H × List MemPlace}, SizeOf.sizeOf y.1 ≤ k → DataW.trod enc Tryz.prog W 0 (fun _ => true) true fuel 24 cs = some y →
    ∃ n b cap, cs = [.int .i64 n.k, sk n.t, .int .i64 n.n, .slice b n.kids.length cap] ∧ NdV (fun _ => True) W n (ndv n b cap) ∧ ((∀ x ∈ y.1.weights Tryz.prog 24, x ≤ reachBytes) → okT n) := by
  intro k
  induction k with
  | zero =>
    intro fuel cs y hy h
    obtain ⟨y0, y1, y2, y3, m, rfl, _⟩ := trod_struct4 Tryz.underlying24 h
    simp at hy
  | succ k ih =>
    intro fuel cs y hy h
    obtain ⟨y0, y1, y2, y3, m, rfl, hlen, g0, g1, g2, g3⟩ := trod_struct4 Tryz.underlying24 h
    rw [cells24] at hlen
    match cs, hlen with
    | [c0, c1, c2, c3], _ =>
      simp only [cells3, cells2, cells9, cells22] at g0 g1 g2 g3
      obtain ⟨kk, e0, _, _⟩ := DataW.trod_int Tryz.underlying3 g0
      obtain ⟨s, e1, q1, ws⟩ := DataW.trod_string Tryz.underlying9 g1
      obtain ⟨nn, e2, q2, wn⟩ := DataW.trod_int Tryz.underlying2 g2
      obtain ⟨t, rfl⟩ : ∃ t : List UInt8, s = ⟨t.toArray⟩ := ⟨s.data.toList, by simp⟩
      simp at e0 e1 e2
      subst e0 e1 e2
      have hw : (∀ x ∈ (DataW.agg [y0.1, y1.1, y2.1, y3.1]).weights Tryz.prog 24, x ≤ reachBytes) → t.length ≤ 1000000000000000000 ∧ ∀ x ∈ y3.1.weights Tryz.prog 22, x ≤ reachBytes := fun hx => by
        rw [DataW.weights, Tryz.underlying24] at hx
        simp only [DataW.weightsEach, List.map, List.append_nil] at hx
        refine ⟨?_, fun x h => hx x (by simp [h])⟩
        have := hx t.length (by rw [q1]; simp [DataW.weights])
        simp [reachBytes] at this
        omega
      rcases open_slice Tryz.underlying22 g3 with ⟨e, _⟩ | ⟨a, len, cap, m', n', D, Pl, e, _, hl, hm, hmm, hx, hel⟩
      · simp at e
        subst e
        refine ⟨⟨kk, t, nn, []⟩, none, 0, rfl, ndV_leaf _ W kk t nn, fun hx => ?_⟩
        rw [okT]
        exact ⟨(hw hx).1, (wf64 wn).1, (wf64 wn).2, trivial⟩
      simp at e
      subst e
      have hmc : m' = cap := hmm
      clear hmm
      haveI : Inhabited Nd := ⟨⟨0, [], 0, []⟩⟩
      rw [cells24] at hel
      obtain ⟨f, hf⟩ := choose_lt (n := len) (p := fun i (x : Nd) => (∃ g off, a = ⟨g, off, none⟩ ∧ NdAt (fun _ => True) W x (fun j => W.cell? ⟨g, off + i * 4 + j, none⟩)) ∧ ((∀ z ∈ (D i).weights Tryz.prog 24, z ≤ reachBytes) → okT x)) (fun i hi => by
        have h0 : ∃ b off, a = ⟨b, off, none⟩ := by
          obtain ⟨cs', h1, _⟩ := hel 0 (by omega)
          obtain ⟨_, hlen, hc⟩ := World.cells?_some h1
          have := hc 0 (by omega)
          match cs', hlen with
          | [c0, c1, c2, c3], _ =>
            simp [Addr.add] at this
            exact ⟨_, _, addr_of this⟩
        obtain ⟨b, off, rfl⟩ := h0
        obtain ⟨cs', h1, h2⟩ := hel i (by omega)
        obtain ⟨_, hlen, hc⟩ := World.cells?_some h1
        have hsz : SizeOf.sizeOf (D i) ≤ k := by
          have hmem : D i ∈ (List.range len).map D := List.mem_map.2 ⟨i, by simpa using hi, rfl⟩
          have := List.sizeOf_lt_of_mem hmem
          rw [hx] at hy
          simp at hy
          omega
        obtain ⟨nd, b', cap', rfl, hN, hT⟩ := ih hsz h2
        refine ⟨nd, ⟨b, off, rfl, ?_⟩, hT⟩
        obtain ⟨x0, x1, x2, x3, e, hN⟩ := hN
        refine NdAt.on (fun g _ _ => ⟨trivial, rfl⟩) nd _ _ (fun j v hj => ?_) hN
        have ha : ∀ j, (Addr.add (Addr.add ⟨b, off, none⟩ (i * 4)) j) = ⟨b, off + i * 4 + j, none⟩ := fun j => by
          simp only [Addr.add]
          split <;> split <;> simp_all <;> omega
        have d0 := hc 0 (by omega)
        have d1 := hc 1 (by omega)
        have d2 := hc 2 (by omega)
        have d3 := hc 3 (by omega)
        rw [ha] at d0 d1 d2 d3
        simp at e d0 d1 d2 d3
        obtain ⟨rfl, rfl, rfl, rfl⟩ := e
        match j, hj with
        | 0, hj => simp at hj; rw [← hj]; exact d0
        | 1, hj => simp at hj; rw [← hj]; exact d1
        | 2, hj => simp at hj; rw [← hj]; exact d2
        | 3, hj => simp at hj; rw [← hj]; exact d3
        | j + 4, hj => simp at hj)
      have hlk : ((List.range len).map f).length = len := by simp
      refine ⟨⟨kk, t, nn, (List.range len).map f⟩, some a, cap, by simp, ?_, fun hX => ?_⟩
      · refine ndV_mk (kids := (List.range len).map f) (by rw [hlk]; exact hl) ?_
        rcases Nat.eq_zero_or_pos len with h0 | h0
        · left; subst h0; rfl
        right
        obtain ⟨⟨g, off, rfl, _⟩, _⟩ := hf 0 h0
        refine ⟨g, off, rfl, trivial, fun j x hj => ?_⟩
        simp only [List.getElem?_map, Option.map_eq_some_iff] at hj
        obtain ⟨i, hi, rfl⟩ := hj
        obtain ⟨hi1, hi2⟩ := List.getElem?_eq_some_iff.1 hi
        simp at hi1 hi2
        subst hi2
        obtain ⟨⟨g', off', e, ht⟩, _⟩ := hf j hi1
        cases e
        exact ht
      · have hY := hw hX
        rw [hx] at hY
        rw [okT, okT_go]
        refine ⟨hY.1, (wf64 wn).1, (wf64 wn).2, fun x hx' => ?_⟩
        obtain ⟨i, hi, rfl⟩ := List.mem_map.1 hx'
        have hi' : i < len := by simpa using hi
        refine (hf i hi').2 fun z hz => hY.2 z ?_
        rw [DataW.weights, Tryz.underlying22]
        exact List.mem_cons_of_mem _ (List.mem_append_left _ (weights_all _ _ _ _ (List.mem_map.2 ⟨i, hi, rfl⟩) z hz))


set_option maxRecDepth 20000 in
theorem open_node {H : Type} {enc : TypeId × Value → H} {W : World} {base : Nat} {v : Value} {d : DataW H} {p : List MemPlace} (hv : Value.okWide Tryz.prog W .any base 24 v)
    (h : DataW.Trod enc Tryz.prog W 0 (fun _ => true) true 24 v d p) (hs : ∀ x ∈ d.weights Tryz.prog 24, x ≤ reachBytes) : ∃ n b cap, v = ndv n b cap ∧ NdV (fun _ => True) W n (ndv n b cap) ∧ okT n := by
  obtain ⟨cs, rfl, hsz⟩ := okWide_struct Tryz.underlying24 hv
  obtain ⟨fuel, hf⟩ := h
  obtain ⟨n, b, cap, e, hN, hT⟩ := open_cells (SizeOf.sizeOf d) (y := (d, p)) (Nat.le_refl _) hf
  refine ⟨n, b, cap, ?_, hN, hT hs⟩
  have e' : cs.toList = [.int .i64 n.k, sk n.t, .int .i64 n.n, .slice b n.kids.length cap] := by simpa [Value.cells] using e
  rw [ndv, ← e']
end Go.Proofs.YtbofdfdmikhanaaGreatDoor
