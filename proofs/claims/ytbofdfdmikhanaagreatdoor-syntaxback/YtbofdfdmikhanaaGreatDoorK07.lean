/- The program's Print of a program. The program's printer: is it a function? No. -/
import Derived.Test.YtbofdfdmikhanaaGreatDoorK06
import Derived.Test.YtbofdfdmikhanaaGreatDoorJ38
import Derived.Lib.SmallJoins
namespace Go.Proofs.YtbofdfdmikhanaaGreatDoor
open Go.RowKit
open Go

theorem cells_own {W : World} {base : Nat} {b : Option Addr} {ts : List (List UInt8)} {cap : Nat} (h : W.ownsRow base 9 1 (.slice b ts.length cap) ts.length (ts.map sk)) (hne : ts ≠ []) : ∃ g, b = some ⟨g, 0, none⟩ ∧ g < W.heap.size ∧ ts.length ≤ cap ∧ ∀ (j : Nat) x, (ts.map fun t => (⟨t.toArray⟩ : ByteArray))[j]? = some x → W.cell? ⟨g, 0 + j, none⟩ = some (.string x) := by
  rcases h.2 with ⟨e, h0⟩ | ⟨g, cap', cur, e, _, hg, hc, _, hsz, ht⟩
  · exact absurd (List.length_eq_zero_iff.1 h0) hne
  · cases e
    refine ⟨g, rfl, block_lt hg, hc, fun j x hx => ?_⟩
    have hj : j < ts.length := by have := (List.getElem?_eq_some_iff.1 hx).1; simpa using this
    have h2 : cur.toList[j]? = (ts.map sk)[j]? := by
      rw [← ht, List.getElem?_take_of_lt (by omega)]
    have h3 : (ts.map sk)[j]? = some (.string x) := by
      simp only [List.getElem?_map, Option.map_eq_some_iff] at hx ⊢
      obtain ⟨t, h4, rfl⟩ := hx
      exact ⟨t, h4, rfl⟩
    rw [h3] at h2
    rw [Nat.zero_add]
    simp only [World.cell?, hg]
    simpa using h2
theorem join_own {W : World} {base : Nat} {b : Option Addr} {n : Nd} {cap : Nat} (h : W.ownsRow base 9 1 (.slice b (bsN n).length cap) (bsN n).length ((bsN n).map sk)) (htl : (textT (showT n)).length ≤ 10000000) (hl : (bsN n).length ≤ 1000000) : Calls Tryz.prog 21 #[.slice b (bsN n).length cap, .string ⟨#[32]⟩] W fun e w' => e = .returned (sk (textT (showT n))) ∧ Below W.heap.size W w' := by
  have hj : Lib.join (bsN n) [32] = textT (showT n) := join_text (showT n)
  by_cases hne : bsN n = []
  · rw [← hj, hne]
    refine (Tryz.strings_Join_none b cap ⟨#[32]⟩ W).mono ?_
    rintro e w' ⟨rfl, rfl⟩
    exact ⟨rfl, Below.refl _ _⟩
  · obtain ⟨g, rfl, hg, hc, hcells⟩ := cells_own h hne
    have e1 : ((bsN n).map fun t => (⟨t.toArray⟩ : ByteArray)).map (·.data.toList) = bsN n := by
      rw [List.map_map]
      exact (List.map_congr_left (g := id) (fun t _ => by simp)).trans (List.map_id _)
    have e2 : (⟨#[32]⟩ : ByteArray).data.toList = [32] := rfl
    have := Tryz.strings_Join g 0 cap ((bsN n).map fun t => (⟨t.toArray⟩ : ByteArray)) ⟨#[32]⟩ W hcells hg (by simp; omega) (by simpa using hc) (by rw [e1, e2, hj]; omega)
    rw [e1, e2, hj] at this
    simpa using this
set_option maxRecDepth 20000 in
set_option maxHeartbeats 2000000 in
theorem print_yes (n : Nd) (hf : fitB n = true) (hu : isK 1 n) (S : Nat → Prop) (b : Option Addr) (cap : Nat) (w : World) (hE : ErrV w) (hsp : SpTab w) (hp10 : Lib.TabIs Tryz.prog w "internal/strconv.uint64pow10" .u64 Lib.pow10Tab) (hN : NdV S w n (ndv n b cap)) (htl : (textT (showT n)).length ≤ 10000000) : Calls Tryz.prog 10 #[ndv n b cap] w fun e w' => e = .returned (.tuple #[sk (if 4000 < (textT (showT n)).length then [] else textT (showT n)), .int .i64 (if 4000 < (textT (showT n)).length then 1 else 0)]) ∧ Below w.heap.size w w' := by
  obtain ⟨tx, htx⟩ : ∃ t, textT (showT n) = t := ⟨_, rfl⟩
  obtain ⟨r1, hr1⟩ : ∃ r, (if 4000 < (textT (showT n)).length then [] else textT (showT n)) = r := ⟨_, rfl⟩
  obtain ⟨r2, hr2⟩ : ∃ r : Int, (if 4000 < (textT (showT n)).length then 1 else 0) = r := ⟨_, rfl⟩
  rw [hr1, hr2]
  rw [htx] at hr1 hr2
  replace hr1 : Hid _ := hr1
  replace hr2 : Hid _ := hr2
  have hm : manyN n ≤ 600 := by unfold fitB at hf; exact (of_decide_eq_true hf).2
  have hok := okN_of n hu.1 hm
  have hb0 := ext_alloc (Below.refl w.heap.size w) (nbx n b cap)
  have g0 := alloc_new w (nbx n b cap)
  obtain ⟨U, hU⟩ : ∃ U, w.alloc (nbx n b cap) = U := ⟨_, rfl⟩
  rw [hU] at hb0 g0
  replace hU : w.alloc (.cells #[.int .i64 n.k, sk n.t, .int .i64 n.n, .slice b n.kids.length cap] 24) = U := hU
  have hFt := fits_any S n b cap U (hN.below hb0)
  rw [hf] at hFt
  have hWn := fun u (hb : Below w.heap.size w u) => newWords_any u (hsp.below hb)
  have hPu := puts_u n hu hm
  have hAu := ask_u_of n hu
  obtain ⟨c0, c1, c2, c3, f0, f1, f2, f3⟩ := in4 g0
  have hqu : Hid (isK 1 n) := hu
  have hlen := show_len_le n
  replace hlen : Hid _ := hlen
  clear hu hf
  go_enter Tryz.func10, Tryz.ntmps10
  go_wp2_with (first | (go_at_call 14; refine hFt.mono ?_; rintro e w1 ⟨rfl, hb1⟩; have hbw1 := ext_trans hb0 hb1; have g1 := block_below hb1 g0; obtain ⟨c0, c1, c2, c3, f0, f1, f2, f3⟩ := in4 g1) | (go_at_call 18; refine (hWn _ hbw1).mono ?_; rintro e w2 ⟨m1, m2, m3, m4, m5, rfl, hWd, hb2⟩; have hbw2 := ext_trans hbw1 hb2; have g2 := block_below hb2 g1; refine Hid.out ?_))
  obtain ⟨m, hme⟩ : ∃ m : Wm, m = ⟨m1, m2, m3, m4, m5⟩ := ⟨_, rfl⟩
  have hWE2 : WE m w2 := by rw [hme]; exact ⟨⟨_, hWd⟩, hE.on hbw2⟩
  have hWF2 : WF m w2 := ⟨hWE2, Go.Joins.tab_stays (g := 5) (by kernel_rfl) hp10 hbw2 (Nat.le_refl _)⟩
  have hbA := ext_alloc (Below.refl w2.heap.size w2) (wrb m none 0 0)
  have gB := alloc_new w2 (wrb m none 0 0)
  have hWt : Wt w2 w2.heap.size m [] (w2.alloc (wrb m none 0 0)) := ⟨⟨none, 0, gB, ⟨rfl, .inl ⟨rfl, rfl⟩⟩, fun q e => by simp [Value.ownBlock] at e⟩, hbA, Nat.le_refl _⟩
  have gA := block_below hbA g2
  have hwz := block_lt g2
  obtain ⟨B, hB⟩ : ∃ B, w2.heap.size = B := ⟨_, rfl⟩
  obtain ⟨A, hA⟩ : ∃ A, w2.alloc (wrb m none 0 0) = A := ⟨_, rfl⟩
  rw [hA] at hbA gB hWt gA
  rw [hB] at gB hWt hwz
  have hN2 := hN.below hbw2
  have hu1 := Ans.yes (hAu m S b cap A (hWE2.on hbA) hok (hN2.below hbA)) hqu.out
  have hPu1 := fun u (h : Wt w2 B m [] u) => hPu m S b cap w2 B [] u hWF2 hN2 h (by unfold bsN; simp; have := hlen.out; omega)
  rw [List.nil_append] at hPu1
  have hmA : A.heap[B]? = some (.cells #[.map (some m1), .map (some m2), .map (some m3), .map (some m4), .map (some m5), .slice none 0 0] 54) := by rw [gB, hme]
  rw [show m.v = .agg #[.map (some m1), .map (some m2), .map (some m3), .map (some m4), .map (some m5)] by rw [hme]] at hu1
  replace hA : w2.alloc (.cells #[.map (some m1), .map (some m2), .map (some m3), .map (some m4), .map (some m5), .slice none 0 0] 54) = A := by rw [← hA, hme]
  have x0 : A.cell? ⟨B, 0, none⟩ = some (.map (some m1)) := cell_block hmA rfl
  have x1 : A.cell? ⟨B, 1, none⟩ = some (.map (some m2)) := cell_block hmA rfl
  have x2 : A.cell? ⟨B, 2, none⟩ = some (.map (some m3)) := cell_block hmA rfl
  have x3 : A.cell? ⟨B, 3, none⟩ = some (.map (some m4)) := cell_block hmA rfl
  have x4 : A.cell? ⟨B, 4, none⟩ = some (.map (some m5)) := cell_block hmA rfl
  obtain ⟨c0, c1, c2, c3, f0, f1, f2, f3⟩ := in4 gA
  have aP : Apart B A w.heap.size := ⟨by omega, fun a0 a1 a2 a3 a4 v hv e => by
    have := (hWt.own_lt hv e).2
    omega⟩
  clear hFt hWn hPu hAu hWd hmA
  replace hA : Hid _ := hA
  replace hB : Hid _ := hB
  obtain ⟨z0, z1, z2, z3, z4, z5, z6, z7⟩ := in4a g2
  refine Lib.hid ?_
  go_wp2_with (go_at_call 19; refine Hid.out ?_)
  have hA' := hA.out
  have hB' := hB.out
  rw [hA', hB']
  clear hA hB hA' hB'
  refine Lib.hid ?_
  refine hu1.mono ?_
  rintro e w3 ⟨rfl, hb3⟩
  have hT3 := hWt.on hb3
  have g3 := block_below hb3 gA
  obtain ⟨c0, c1, c2, c3, f0, f1, f2, f3⟩ := in4 g3
  go_wp2_with (first | (go_at_call 21; refine Hid.out ?_) | (go_at_call 20; refine (hPu1 _ hT3).mono ?_; rintro e w4 q4; have e4 := q4.e; subst e4; obtain ⟨bt, capt, hbox, hown, _⟩ := q4.t.box; have y5 : w4.cell? ⟨B, 5, none⟩ = some (.slice bt (bsN n).length capt) := cell_block hbox rfl))
  have hJ := join_own hown htl (by unfold bsN; simp; have := hlen.out; omega)
  have hb4 : Below w.heap.size w w4 := ext_trans hbw2 q4.t.bl
  rw [htx] at hJ htl
  refine Lib.hid ?_
  by_cases h4 : 4000 < tx.length
  · have h4' : (4000 : Int) < (tx.length : Int) := by omega
    go_wp2_with (go_at_call 21; refine hJ.mono ?_; rintro e w5 ⟨rfl, hb5⟩)
    have h1 := hr1.out
    have h2 := hr2.out
    rw [if_pos h4] at h1 h2
    subst h1 h2
    go_ret2
    exact ⟨rfl, ext_trans hb4 hb5⟩
  · have h4' : ¬ (4000 : Int) < (tx.length : Int) := by omega
    go_wp2_with (go_at_call 21; refine hJ.mono ?_; rintro e w5 ⟨rfl, hb5⟩)
    have h1 := hr1.out
    have h2 := hr2.out
    rw [if_neg h4] at h1 h2
    subst h1 h2
    go_ret2
    exact ⟨rfl, ext_trans hb4 hb5⟩
end Go.Proofs.YtbofdfdmikhanaaGreatDoor
namespace Go.Proofs.YtbofdfdmikhanaaGreatDoor
open Go.RowKit
open Go

theorem fr_gen {Q : Act → World → Prop} {a : Act} {W : World} (h4 : a.tmps[4]? = some (.bool false)) (hd : a.defers = []) (h : ∀ fr : Act, fr.tmps[4]? = some (.bool false) → fr.defers = [] → Q fr W) : Q a W := h a h4 hd
theorem res41 {tm : Array Value} {W : World} {v : Value} (h : tm[4]? = some v) : (results Tryz.f41 tm).run Tryz.prog W = .ok v W := by
  simp [results, Tryz.results41, go_sem, h]

set_option maxRecDepth 20000 in
set_option maxHeartbeats 4000000 in
theorem fu2_a (t : List UInt8) (n : Int) (ks : List Nd) (hq : ¬ (n = 0 ∧ nameB t = true)) : Ask 41 (isK 2) ⟨2, t, n, ks⟩ := by
  intro m S b cap w hW hok hN
  have hB := (fn_new w m ⟨2, t, n, ks⟩ b cap).b
  rw [okN] at hok
  obtain ⟨hok1, hok2, hok3, hok5, hok4⟩ := hok
  rw [okN_go] at hok4
  obtain ⟨U, hU⟩ : ∃ U, (w.alloc m.x).alloc (nbx ⟨2, t, n, ks⟩ b cap) = U := ⟨_, rfl⟩
  rw [hU] at hB
  replace hU : (w.alloc (.cells #[.map (some m.a), .map (some m.b), .map (some m.c), .map (some m.d), .map (some m.e)] 50)).alloc (.cells #[.int .i64 2, sk t, .int .i64 n, .slice b ks.length cap] 24) = U := hU
  have hB0 := hB
  obtain ⟨⟨g1, g2, hbU⟩, ⟨c0, c1, c2, c3, f0, f1, f2, f3⟩, ⟨d0, d1, d2, d3, d4⟩⟩ := hB0
  obtain ⟨⟨lim, hWd⟩, hE⟩ := hW.on hbU.drew
  have hNm := named_any ⟨2, t, n, ks⟩ b cap m.a m.b m.c m.d m.e lim U.drew hE hWd
  dsimp only at hNm
  have hy1 : (n == 0 && nameB t) = false := by simpa using hq
  rw [hy1] at hNm
  replace hq : Hid _ := hq
  clear hy1
  go_enter Tryz.func41, Tryz.ntmps41
  go_wp2
  refine wp_region_any (by kernel_rfl) ?_
  change wpAny _ _ _ _ _ _ _ (World.drew _)
  refine wpAny_take (i := 0) (v := ?_) rfl (by kernel_rfl) (by kernel_rfl) (by kernel_rfl) (fun _ _ _ h => h) (Or.inl ⟨by rfl, ?_⟩) ?_
  rotate_left
  · intro w; go_simp; try with_reducible rfl
  refine wpAny_ready (rs := [1]) (by kernel_rfl) (by simp) ?_
  refine AllReady.cons rfl (fun K hK => ?_) AllReady.nil
  go_simp
  refine hK _ _ ?_
  clear hK K
  refine wpAny_take (i := 2) (v := ?_) rfl (by kernel_rfl) (by kernel_rfl) (by kernel_rfl) (fun _ _ _ h => h) (Or.inl ⟨by rfl, ?_⟩) ?_
  rotate_left
  · intro w; go_simp; try with_reducible rfl
  refine wpAny_take (i := 3) (v := ?_) rfl (by kernel_rfl) (by kernel_rfl) (by kernel_rfl) (fun _ _ _ h => h) (Or.inl ⟨by rfl, ?_⟩) ?_
  rotate_left
  · intro w; go_simp; try with_reducible rfl
  refine wpAny_ready (rs := [4, 5]) (by kernel_rfl) (by simp) ?_
  refine AllReady.cons rfl (fun K hK => ?_) (AllReady.cons rfl (fun K hK => ?_) AllReady.nil)
  · go_simp
    refine hK _ _ ?_
    clear hK K
    refine wpAny_ready (rs := [5]) (by kernel_rfl) (by simp) ?_
    refine AllReady.cons rfl (fun K hK => ?_) AllReady.nil
    go_simp
    refine hK _ _ ?_
    clear hK K
    refine wpAny_ready (rs := [6]) (by kernel_rfl) (by simp) ?_
    refine AllReady.cons rfl (fun K hK => ?_) AllReady.nil
    go_simp
    go_wp2_with (go_at_call 74; refine hNm.mono ?_; rintro e w1 ⟨rfl, hb1⟩)
    try (refine hK _ _ ?_; clear hK K)
    -- 7
    refine wpAny_take (i := 7) (v := .bool false) rfl (by kernel_rfl) (by kernel_rfl) (by kernel_rfl) (fun _ _ _ h => h) (Or.inl ⟨by kernel_rfl, fun w => by kernel_rfl⟩) ?_
    -- 8
    refine wpAny_take (i := 8) (v := .bool false) rfl (by kernel_rfl) (by kernel_rfl) (by kernel_rfl) (fun _ _ _ h => h) (Or.inl ⟨by kernel_rfl, fun w => by kernel_rfl⟩) ?_
    -- 9
    refine wpAny_take (i := 9) (v := undef) rfl (by kernel_rfl) (by kernel_rfl) (by kernel_rfl) (fun _ _ _ h => h) (Or.inr ⟨by kernel_rfl, rfl⟩) ?_
    -- 10
    refine wpAny_take (i := 10) (v := undef) rfl (by kernel_rfl) (by kernel_rfl) (by kernel_rfl) (fun _ _ _ h => h) (Or.inr ⟨by kernel_rfl, rfl⟩) ?_
    -- 11
    refine wpAny_take (i := 11) (v := .bool false) rfl (by kernel_rfl) (by kernel_rfl) (by kernel_rfl) (fun _ _ _ h => h) (Or.inl ⟨by kernel_rfl, fun w => by kernel_rfl⟩) ?_
    -- 12
    refine wpAny_take (i := 12) (v := .bool false) rfl (by kernel_rfl) (by kernel_rfl) (by kernel_rfl) (fun _ _ _ h => h) (Or.inl ⟨by kernel_rfl, fun w => by kernel_rfl⟩) ?_
    -- 13
    refine wpAny_take (i := 13) (v := undef) rfl (by kernel_rfl) (by kernel_rfl) (by kernel_rfl) (fun _ _ _ h => h) (Or.inr ⟨by kernel_rfl, rfl⟩) ?_
    -- 14
    refine wpAny_take (i := 14) (v := undef) rfl (by kernel_rfl) (by kernel_rfl) (by kernel_rfl) (fun _ _ _ h => h) (Or.inr ⟨by kernel_rfl, rfl⟩) ?_
    -- 15
    refine wpAny_take (i := 15) (v := undef) rfl (by kernel_rfl) (by kernel_rfl) (by kernel_rfl) (fun _ _ _ h => h) (Or.inr ⟨by kernel_rfl, rfl⟩) ?_
    -- 16
    refine wpAny_take (i := 16) (v := undef) rfl (by kernel_rfl) (by kernel_rfl) (by kernel_rfl) (fun _ _ _ h => h) (Or.inr ⟨by kernel_rfl, rfl⟩) ?_
    -- 17
    refine wpAny_take (i := 17) (v := undef) rfl (by kernel_rfl) (by kernel_rfl) (by kernel_rfl) (fun _ _ _ h => h) (Or.inr ⟨by kernel_rfl, rfl⟩) ?_
    -- 18
    refine wpAny_take (i := 18) (v := undef) rfl (by kernel_rfl) (by kernel_rfl) (by kernel_rfl) (fun _ _ _ h => h) (Or.inr ⟨by kernel_rfl, rfl⟩) ?_
    -- 19
    refine wpAny_take (i := 19) (v := undef) rfl (by kernel_rfl) (by kernel_rfl) (by kernel_rfl) (fun _ _ _ h => h) (Or.inr ⟨by kernel_rfl, rfl⟩) ?_
    -- 20
    refine wpAny_take (i := 20) (v := .bool false) rfl (by kernel_rfl) (by kernel_rfl) (by kernel_rfl) (fun _ _ _ h => h) (Or.inl ⟨by kernel_rfl, fun w => by kernel_rfl⟩) ?_
    -- 21
    refine wpAny_take (i := 21) (v := .bool false) rfl (by kernel_rfl) (by kernel_rfl) (by kernel_rfl) (fun _ _ _ h => h) (Or.inl ⟨by kernel_rfl, fun w => by kernel_rfl⟩) ?_
    -- 22
    refine wpAny_take (i := 22) (v := undef) rfl (by kernel_rfl) (by kernel_rfl) (by kernel_rfl) (fun _ _ _ h => h) (Or.inr ⟨by kernel_rfl, rfl⟩) ?_
    -- 23
    refine wpAny_take (i := 23) (v := undef) rfl (by kernel_rfl) (by kernel_rfl) (by kernel_rfl) (fun _ _ _ h => h) (Or.inr ⟨by kernel_rfl, rfl⟩) ?_
    -- 24
    refine wpAny_take (i := 24) (v := undef) rfl (by kernel_rfl) (by kernel_rfl) (by kernel_rfl) (fun _ _ _ h => h) (Or.inr ⟨by kernel_rfl, rfl⟩) ?_
    -- 25
    refine wpAny_take (i := 25) (v := undef) rfl (by kernel_rfl) (by kernel_rfl) (by kernel_rfl) (fun _ _ _ h => h) (Or.inr ⟨by kernel_rfl, rfl⟩) ?_
    -- 26
    refine wpAny_take (i := 26) (v := undef) rfl (by kernel_rfl) (by kernel_rfl) (by kernel_rfl) (fun _ _ _ h => h) (Or.inr ⟨by kernel_rfl, rfl⟩) ?_
    -- 27
    refine wpAny_take (i := 27) (v := undef) rfl (by kernel_rfl) (by kernel_rfl) (by kernel_rfl) (fun _ _ _ h => h) (Or.inr ⟨by kernel_rfl, rfl⟩) ?_
    -- 28
    refine wpAny_take (i := 28) (v := undef) rfl (by kernel_rfl) (by kernel_rfl) (by kernel_rfl) (fun _ _ _ h => h) (Or.inr ⟨by kernel_rfl, rfl⟩) ?_
    -- 29
    refine wpAny_take (i := 29) (v := .bool false) rfl (by kernel_rfl) (by kernel_rfl) (by kernel_rfl) (fun _ _ _ h => h) (Or.inl ⟨by kernel_rfl, fun w => by kernel_rfl⟩) ?_
    -- 30
    refine wpAny_take (i := 30) (v := .bool false) rfl (by kernel_rfl) (by kernel_rfl) (by kernel_rfl) (fun _ _ _ h => h) (Or.inl ⟨by kernel_rfl, fun w => by kernel_rfl⟩) ?_
    refine wpAny_done (by kernel_rfl) ?_ _
    refine fr_gen (Q := Exit.then _ _ .normal) (by kernel_rfl) (by kernel_rfl) ?_
    intro fr h4 hd
    go_wp2
    refine bodyPost_ret (res41 h4) hd ?_
    exact ⟨⟨false, rfl, ⟨fun h => (by cases h), fun h => absurd (isk2.1 h).1 hq.out⟩⟩, ext_trans hbU.drew hb1⟩
  · go_simp
    refine hK _ _ ?_
    clear hK K
    refine wpAny_ready (rs := [4]) (by kernel_rfl) (by simp) ?_
    refine AllReady.cons rfl (fun K hK => ?_) AllReady.nil
    go_simp
    refine hK _ _ ?_
    clear hK K
    refine wpAny_ready (rs := [6]) (by kernel_rfl) (by simp) ?_
    refine AllReady.cons rfl (fun K hK => ?_) AllReady.nil
    go_simp
    go_wp2_with (go_at_call 74; refine hNm.mono ?_; rintro e w1 ⟨rfl, hb1⟩)
    try (refine hK _ _ ?_; clear hK K)
    -- 7
    refine wpAny_take (i := 7) (v := .bool false) rfl (by kernel_rfl) (by kernel_rfl) (by kernel_rfl) (fun _ _ _ h => h) (Or.inl ⟨by kernel_rfl, fun w => by kernel_rfl⟩) ?_
    -- 8
    refine wpAny_take (i := 8) (v := .bool false) rfl (by kernel_rfl) (by kernel_rfl) (by kernel_rfl) (fun _ _ _ h => h) (Or.inl ⟨by kernel_rfl, fun w => by kernel_rfl⟩) ?_
    -- 9
    refine wpAny_take (i := 9) (v := undef) rfl (by kernel_rfl) (by kernel_rfl) (by kernel_rfl) (fun _ _ _ h => h) (Or.inr ⟨by kernel_rfl, rfl⟩) ?_
    -- 10
    refine wpAny_take (i := 10) (v := undef) rfl (by kernel_rfl) (by kernel_rfl) (by kernel_rfl) (fun _ _ _ h => h) (Or.inr ⟨by kernel_rfl, rfl⟩) ?_
    -- 11
    refine wpAny_take (i := 11) (v := .bool false) rfl (by kernel_rfl) (by kernel_rfl) (by kernel_rfl) (fun _ _ _ h => h) (Or.inl ⟨by kernel_rfl, fun w => by kernel_rfl⟩) ?_
    -- 12
    refine wpAny_take (i := 12) (v := .bool false) rfl (by kernel_rfl) (by kernel_rfl) (by kernel_rfl) (fun _ _ _ h => h) (Or.inl ⟨by kernel_rfl, fun w => by kernel_rfl⟩) ?_
    -- 13
    refine wpAny_take (i := 13) (v := undef) rfl (by kernel_rfl) (by kernel_rfl) (by kernel_rfl) (fun _ _ _ h => h) (Or.inr ⟨by kernel_rfl, rfl⟩) ?_
    -- 14
    refine wpAny_take (i := 14) (v := undef) rfl (by kernel_rfl) (by kernel_rfl) (by kernel_rfl) (fun _ _ _ h => h) (Or.inr ⟨by kernel_rfl, rfl⟩) ?_
    -- 15
    refine wpAny_take (i := 15) (v := undef) rfl (by kernel_rfl) (by kernel_rfl) (by kernel_rfl) (fun _ _ _ h => h) (Or.inr ⟨by kernel_rfl, rfl⟩) ?_
    -- 16
    refine wpAny_take (i := 16) (v := undef) rfl (by kernel_rfl) (by kernel_rfl) (by kernel_rfl) (fun _ _ _ h => h) (Or.inr ⟨by kernel_rfl, rfl⟩) ?_
    -- 17
    refine wpAny_take (i := 17) (v := undef) rfl (by kernel_rfl) (by kernel_rfl) (by kernel_rfl) (fun _ _ _ h => h) (Or.inr ⟨by kernel_rfl, rfl⟩) ?_
    -- 18
    refine wpAny_take (i := 18) (v := undef) rfl (by kernel_rfl) (by kernel_rfl) (by kernel_rfl) (fun _ _ _ h => h) (Or.inr ⟨by kernel_rfl, rfl⟩) ?_
    -- 19
    refine wpAny_take (i := 19) (v := undef) rfl (by kernel_rfl) (by kernel_rfl) (by kernel_rfl) (fun _ _ _ h => h) (Or.inr ⟨by kernel_rfl, rfl⟩) ?_
    -- 20
    refine wpAny_take (i := 20) (v := .bool false) rfl (by kernel_rfl) (by kernel_rfl) (by kernel_rfl) (fun _ _ _ h => h) (Or.inl ⟨by kernel_rfl, fun w => by kernel_rfl⟩) ?_
    -- 21
    refine wpAny_take (i := 21) (v := .bool false) rfl (by kernel_rfl) (by kernel_rfl) (by kernel_rfl) (fun _ _ _ h => h) (Or.inl ⟨by kernel_rfl, fun w => by kernel_rfl⟩) ?_
    -- 22
    refine wpAny_take (i := 22) (v := undef) rfl (by kernel_rfl) (by kernel_rfl) (by kernel_rfl) (fun _ _ _ h => h) (Or.inr ⟨by kernel_rfl, rfl⟩) ?_
    -- 23
    refine wpAny_take (i := 23) (v := undef) rfl (by kernel_rfl) (by kernel_rfl) (by kernel_rfl) (fun _ _ _ h => h) (Or.inr ⟨by kernel_rfl, rfl⟩) ?_
    -- 24
    refine wpAny_take (i := 24) (v := undef) rfl (by kernel_rfl) (by kernel_rfl) (by kernel_rfl) (fun _ _ _ h => h) (Or.inr ⟨by kernel_rfl, rfl⟩) ?_
    -- 25
    refine wpAny_take (i := 25) (v := undef) rfl (by kernel_rfl) (by kernel_rfl) (by kernel_rfl) (fun _ _ _ h => h) (Or.inr ⟨by kernel_rfl, rfl⟩) ?_
    -- 26
    refine wpAny_take (i := 26) (v := undef) rfl (by kernel_rfl) (by kernel_rfl) (by kernel_rfl) (fun _ _ _ h => h) (Or.inr ⟨by kernel_rfl, rfl⟩) ?_
    -- 27
    refine wpAny_take (i := 27) (v := undef) rfl (by kernel_rfl) (by kernel_rfl) (by kernel_rfl) (fun _ _ _ h => h) (Or.inr ⟨by kernel_rfl, rfl⟩) ?_
    -- 28
    refine wpAny_take (i := 28) (v := undef) rfl (by kernel_rfl) (by kernel_rfl) (by kernel_rfl) (fun _ _ _ h => h) (Or.inr ⟨by kernel_rfl, rfl⟩) ?_
    -- 29
    refine wpAny_take (i := 29) (v := .bool false) rfl (by kernel_rfl) (by kernel_rfl) (by kernel_rfl) (fun _ _ _ h => h) (Or.inl ⟨by kernel_rfl, fun w => by kernel_rfl⟩) ?_
    -- 30
    refine wpAny_take (i := 30) (v := .bool false) rfl (by kernel_rfl) (by kernel_rfl) (by kernel_rfl) (fun _ _ _ h => h) (Or.inl ⟨by kernel_rfl, fun w => by kernel_rfl⟩) ?_
    refine wpAny_done (by kernel_rfl) ?_ _
    refine fr_gen (Q := Exit.then _ _ .normal) (by kernel_rfl) (by kernel_rfl) ?_
    intro fr h4 hd
    go_wp2
    refine bodyPost_ret (res41 h4) hd ?_
    exact ⟨⟨false, rfl, ⟨fun h => (by cases h), fun h => absurd (isk2.1 h).1 hq.out⟩⟩, ext_trans hbU.drew hb1⟩
set_option maxRecDepth 20000 in
set_option maxHeartbeats 4000000 in
theorem fu2_b (t : List UInt8) (n : Int) (ks : List Nd) (hq : n = 0 ∧ nameB t = true) (hl : ks = []) : Ask 41 (isK 2) ⟨2, t, n, ks⟩ := by
  intro m S b cap w hW hok hN
  have hB := (fn_new w m ⟨2, t, n, ks⟩ b cap).b
  rw [okN] at hok
  obtain ⟨hok1, hok2, hok3, hok5, hok4⟩ := hok
  rw [okN_go] at hok4
  obtain ⟨U, hU⟩ : ∃ U, (w.alloc m.x).alloc (nbx ⟨2, t, n, ks⟩ b cap) = U := ⟨_, rfl⟩
  rw [hU] at hB
  replace hU : (w.alloc (.cells #[.map (some m.a), .map (some m.b), .map (some m.c), .map (some m.d), .map (some m.e)] 50)).alloc (.cells #[.int .i64 2, sk t, .int .i64 n, .slice b ks.length cap] 24) = U := hU
  have hB0 := hB
  obtain ⟨⟨g1, g2, hbU⟩, ⟨c0, c1, c2, c3, f0, f1, f2, f3⟩, ⟨d0, d1, d2, d3, d4⟩⟩ := hB0
  obtain ⟨⟨lim, hWd⟩, hE⟩ := hW.on hbU.drew
  have hNm := named_any ⟨2, t, n, ks⟩ b cap m.a m.b m.c m.d m.e lim U.drew hE hWd
  dsimp only at hNm
  have hy1 : (n == 0 && nameB t) = true := by simpa using hq
  rw [hy1] at hNm
  have hLe : (ks.length : Int) - 1 = -1 := by rw [hl]; rfl
  replace hq : Hid _ := hq
  replace hl : Hid _ := hl
  clear hy1
  go_enter Tryz.func41, Tryz.ntmps41
  go_wp2
  refine wp_region_any (by kernel_rfl) ?_
  change wpAny _ _ _ _ _ _ _ (World.drew _)
  refine wpAny_take (i := 0) (v := ?_) rfl (by kernel_rfl) (by kernel_rfl) (by kernel_rfl) (fun _ _ _ h => h) (Or.inl ⟨by rfl, ?_⟩) ?_
  rotate_left
  · intro w; go_simp; try with_reducible rfl
  refine wpAny_ready (rs := [1]) (by kernel_rfl) (by simp) ?_
  refine AllReady.cons rfl (fun K hK => ?_) AllReady.nil
  go_simp
  refine hK _ _ ?_
  clear hK K
  refine wpAny_take (i := 2) (v := ?_) rfl (by kernel_rfl) (by kernel_rfl) (by kernel_rfl) (fun _ _ _ h => h) (Or.inl ⟨by rfl, ?_⟩) ?_
  rotate_left
  · intro w; go_simp; try with_reducible rfl
  refine wpAny_take (i := 3) (v := ?_) rfl (by kernel_rfl) (by kernel_rfl) (by kernel_rfl) (fun _ _ _ h => h) (Or.inl ⟨by rfl, ?_⟩) ?_
  rotate_left
  · intro w; go_simp; try with_reducible rfl
  refine wpAny_ready (rs := [4, 5]) (by kernel_rfl) (by simp) ?_
  refine AllReady.cons rfl (fun K hK => ?_) (AllReady.cons rfl (fun K hK => ?_) AllReady.nil)
  · go_simp
    refine hK _ _ ?_
    clear hK K
    refine wpAny_ready (rs := [5]) (by kernel_rfl) (by simp) ?_
    refine AllReady.cons rfl (fun K hK => ?_) AllReady.nil
    go_simp
    refine hK _ _ ?_
    clear hK K
    refine wpAny_ready (rs := [6]) (by kernel_rfl) (by simp) ?_
    refine AllReady.cons rfl (fun K hK => ?_) AllReady.nil
    go_simp
    go_wp2_with (go_at_call 74; refine hNm.mono ?_; rintro e w1 ⟨rfl, hb1⟩)
    try (refine hK _ _ ?_; clear hK K)
    refine wpAny_take (i := 7) (v := .bool true) rfl (by kernel_rfl) (by kernel_rfl) (by kernel_rfl) (fun _ _ _ h => h) (Or.inl ⟨by kernel_rfl, fun w => by kernel_rfl⟩) ?_
    refine wpAny_take (i := 8) (v := .bool true) rfl (by kernel_rfl) (by kernel_rfl) (by kernel_rfl) (fun _ _ _ h => h) (Or.inl ⟨by kernel_rfl, fun w => by kernel_rfl⟩) ?_
    refine wpAny_take (i := 9) (v := .int .i64 (-1)) rfl (by kernel_rfl) (by kernel_rfl) (by kernel_rfl) (fun _ _ _ h => h) (Or.inl ⟨by kernel_rfl, fun w => by kernel_rfl⟩) ?_
    refine wpAny_take (i := 10) (v := .bool false) rfl (by kernel_rfl) (by kernel_rfl) (by kernel_rfl) (fun _ _ _ h => h) (Or.inl ⟨by kernel_rfl, fun w => by kernel_rfl⟩) ?_
    refine wpAny_take (i := 11) (v := .bool false) rfl (by kernel_rfl) (by kernel_rfl) (by kernel_rfl) (fun _ _ _ h => h) (Or.inl ⟨by kernel_rfl, fun w => by kernel_rfl⟩) ?_
    refine wpAny_take (i := 12) (v := .bool false) rfl (by kernel_rfl) (by kernel_rfl) (by kernel_rfl) (fun _ _ _ h => h) (Or.inl ⟨by kernel_rfl, fun w => by kernel_rfl⟩) ?_
    refine wpAny_take (i := 13) (v := undef) rfl (by kernel_rfl) (by kernel_rfl) (by kernel_rfl) (fun _ _ _ h => h) (Or.inr ⟨by kernel_rfl, rfl⟩) ?_
    refine wpAny_take (i := 14) (v := undef) rfl (by kernel_rfl) (by kernel_rfl) (by kernel_rfl) (fun _ _ _ h => h) (Or.inr ⟨by kernel_rfl, rfl⟩) ?_
    refine wpAny_take (i := 15) (v := undef) rfl (by kernel_rfl) (by kernel_rfl) (by kernel_rfl) (fun _ _ _ h => h) (Or.inr ⟨by kernel_rfl, rfl⟩) ?_
    refine wpAny_take (i := 16) (v := undef) rfl (by kernel_rfl) (by kernel_rfl) (by kernel_rfl) (fun _ _ _ h => h) (Or.inr ⟨by kernel_rfl, rfl⟩) ?_
    refine wpAny_take (i := 17) (v := undef) rfl (by kernel_rfl) (by kernel_rfl) (by kernel_rfl) (fun _ _ _ h => h) (Or.inr ⟨by kernel_rfl, rfl⟩) ?_
    refine wpAny_take (i := 18) (v := undef) rfl (by kernel_rfl) (by kernel_rfl) (by kernel_rfl) (fun _ _ _ h => h) (Or.inr ⟨by kernel_rfl, rfl⟩) ?_
    refine wpAny_take (i := 19) (v := undef) rfl (by kernel_rfl) (by kernel_rfl) (by kernel_rfl) (fun _ _ _ h => h) (Or.inr ⟨by kernel_rfl, rfl⟩) ?_
    refine wpAny_take (i := 20) (v := .bool false) rfl (by kernel_rfl) (by kernel_rfl) (by kernel_rfl) (fun _ _ _ h => h) (Or.inl ⟨by kernel_rfl, fun w => by kernel_rfl⟩) ?_
    refine wpAny_take (i := 21) (v := .bool false) rfl (by kernel_rfl) (by kernel_rfl) (by kernel_rfl) (fun _ _ _ h => h) (Or.inl ⟨by kernel_rfl, fun w => by kernel_rfl⟩) ?_
    refine wpAny_take (i := 22) (v := undef) rfl (by kernel_rfl) (by kernel_rfl) (by kernel_rfl) (fun _ _ _ h => h) (Or.inr ⟨by kernel_rfl, rfl⟩) ?_
    refine wpAny_take (i := 23) (v := undef) rfl (by kernel_rfl) (by kernel_rfl) (by kernel_rfl) (fun _ _ _ h => h) (Or.inr ⟨by kernel_rfl, rfl⟩) ?_
    refine wpAny_take (i := 24) (v := undef) rfl (by kernel_rfl) (by kernel_rfl) (by kernel_rfl) (fun _ _ _ h => h) (Or.inr ⟨by kernel_rfl, rfl⟩) ?_
    refine wpAny_take (i := 25) (v := undef) rfl (by kernel_rfl) (by kernel_rfl) (by kernel_rfl) (fun _ _ _ h => h) (Or.inr ⟨by kernel_rfl, rfl⟩) ?_
    refine wpAny_take (i := 26) (v := undef) rfl (by kernel_rfl) (by kernel_rfl) (by kernel_rfl) (fun _ _ _ h => h) (Or.inr ⟨by kernel_rfl, rfl⟩) ?_
    refine wpAny_take (i := 27) (v := undef) rfl (by kernel_rfl) (by kernel_rfl) (by kernel_rfl) (fun _ _ _ h => h) (Or.inr ⟨by kernel_rfl, rfl⟩) ?_
    refine wpAny_take (i := 28) (v := undef) rfl (by kernel_rfl) (by kernel_rfl) (by kernel_rfl) (fun _ _ _ h => h) (Or.inr ⟨by kernel_rfl, rfl⟩) ?_
    refine wpAny_take (i := 29) (v := .bool false) rfl (by kernel_rfl) (by kernel_rfl) (by kernel_rfl) (fun _ _ _ h => h) (Or.inl ⟨by kernel_rfl, fun w => by kernel_rfl⟩) ?_
    refine wpAny_take (i := 30) (v := .bool false) rfl (by kernel_rfl) (by kernel_rfl) (by kernel_rfl) (fun _ _ _ h => h) (Or.inl ⟨by kernel_rfl, fun w => by kernel_rfl⟩) ?_
    refine wpAny_done (by kernel_rfl) ?_ _
    refine fr_gen (Q := Exit.then _ _ .normal) (by kernel_rfl) (by kernel_rfl) ?_
    intro fr h4 hd
    go_wp2
    refine bodyPost_ret (res41 h4) hd ?_
    exact ⟨⟨false, rfl, ⟨fun h => (by cases h), fun h => absurd (isk2.1 h).2.1 (by rw [hl.out]; simp)⟩⟩, ext_trans hbU.drew hb1⟩
  · go_simp
    refine hK _ _ ?_
    clear hK K
    refine wpAny_ready (rs := [4]) (by kernel_rfl) (by simp) ?_
    refine AllReady.cons rfl (fun K hK => ?_) AllReady.nil
    go_simp
    refine hK _ _ ?_
    clear hK K
    refine wpAny_ready (rs := [6]) (by kernel_rfl) (by simp) ?_
    refine AllReady.cons rfl (fun K hK => ?_) AllReady.nil
    go_simp
    go_wp2_with (go_at_call 74; refine hNm.mono ?_; rintro e w1 ⟨rfl, hb1⟩)
    try (refine hK _ _ ?_; clear hK K)
    refine wpAny_take (i := 7) (v := .bool true) rfl (by kernel_rfl) (by kernel_rfl) (by kernel_rfl) (fun _ _ _ h => h) (Or.inl ⟨by kernel_rfl, fun w => by kernel_rfl⟩) ?_
    refine wpAny_take (i := 8) (v := .bool true) rfl (by kernel_rfl) (by kernel_rfl) (by kernel_rfl) (fun _ _ _ h => h) (Or.inl ⟨by kernel_rfl, fun w => by kernel_rfl⟩) ?_
    refine wpAny_take (i := 9) (v := .int .i64 (-1)) rfl (by kernel_rfl) (by kernel_rfl) (by kernel_rfl) (fun _ _ _ h => h) (Or.inl ⟨by kernel_rfl, fun w => by kernel_rfl⟩) ?_
    refine wpAny_take (i := 10) (v := .bool false) rfl (by kernel_rfl) (by kernel_rfl) (by kernel_rfl) (fun _ _ _ h => h) (Or.inl ⟨by kernel_rfl, fun w => by kernel_rfl⟩) ?_
    refine wpAny_take (i := 11) (v := .bool false) rfl (by kernel_rfl) (by kernel_rfl) (by kernel_rfl) (fun _ _ _ h => h) (Or.inl ⟨by kernel_rfl, fun w => by kernel_rfl⟩) ?_
    refine wpAny_take (i := 12) (v := .bool false) rfl (by kernel_rfl) (by kernel_rfl) (by kernel_rfl) (fun _ _ _ h => h) (Or.inl ⟨by kernel_rfl, fun w => by kernel_rfl⟩) ?_
    refine wpAny_take (i := 13) (v := undef) rfl (by kernel_rfl) (by kernel_rfl) (by kernel_rfl) (fun _ _ _ h => h) (Or.inr ⟨by kernel_rfl, rfl⟩) ?_
    refine wpAny_take (i := 14) (v := undef) rfl (by kernel_rfl) (by kernel_rfl) (by kernel_rfl) (fun _ _ _ h => h) (Or.inr ⟨by kernel_rfl, rfl⟩) ?_
    refine wpAny_take (i := 15) (v := undef) rfl (by kernel_rfl) (by kernel_rfl) (by kernel_rfl) (fun _ _ _ h => h) (Or.inr ⟨by kernel_rfl, rfl⟩) ?_
    refine wpAny_take (i := 16) (v := undef) rfl (by kernel_rfl) (by kernel_rfl) (by kernel_rfl) (fun _ _ _ h => h) (Or.inr ⟨by kernel_rfl, rfl⟩) ?_
    refine wpAny_take (i := 17) (v := undef) rfl (by kernel_rfl) (by kernel_rfl) (by kernel_rfl) (fun _ _ _ h => h) (Or.inr ⟨by kernel_rfl, rfl⟩) ?_
    refine wpAny_take (i := 18) (v := undef) rfl (by kernel_rfl) (by kernel_rfl) (by kernel_rfl) (fun _ _ _ h => h) (Or.inr ⟨by kernel_rfl, rfl⟩) ?_
    refine wpAny_take (i := 19) (v := undef) rfl (by kernel_rfl) (by kernel_rfl) (by kernel_rfl) (fun _ _ _ h => h) (Or.inr ⟨by kernel_rfl, rfl⟩) ?_
    refine wpAny_take (i := 20) (v := .bool false) rfl (by kernel_rfl) (by kernel_rfl) (by kernel_rfl) (fun _ _ _ h => h) (Or.inl ⟨by kernel_rfl, fun w => by kernel_rfl⟩) ?_
    refine wpAny_take (i := 21) (v := .bool false) rfl (by kernel_rfl) (by kernel_rfl) (by kernel_rfl) (fun _ _ _ h => h) (Or.inl ⟨by kernel_rfl, fun w => by kernel_rfl⟩) ?_
    refine wpAny_take (i := 22) (v := undef) rfl (by kernel_rfl) (by kernel_rfl) (by kernel_rfl) (fun _ _ _ h => h) (Or.inr ⟨by kernel_rfl, rfl⟩) ?_
    refine wpAny_take (i := 23) (v := undef) rfl (by kernel_rfl) (by kernel_rfl) (by kernel_rfl) (fun _ _ _ h => h) (Or.inr ⟨by kernel_rfl, rfl⟩) ?_
    refine wpAny_take (i := 24) (v := undef) rfl (by kernel_rfl) (by kernel_rfl) (by kernel_rfl) (fun _ _ _ h => h) (Or.inr ⟨by kernel_rfl, rfl⟩) ?_
    refine wpAny_take (i := 25) (v := undef) rfl (by kernel_rfl) (by kernel_rfl) (by kernel_rfl) (fun _ _ _ h => h) (Or.inr ⟨by kernel_rfl, rfl⟩) ?_
    refine wpAny_take (i := 26) (v := undef) rfl (by kernel_rfl) (by kernel_rfl) (by kernel_rfl) (fun _ _ _ h => h) (Or.inr ⟨by kernel_rfl, rfl⟩) ?_
    refine wpAny_take (i := 27) (v := undef) rfl (by kernel_rfl) (by kernel_rfl) (by kernel_rfl) (fun _ _ _ h => h) (Or.inr ⟨by kernel_rfl, rfl⟩) ?_
    refine wpAny_take (i := 28) (v := undef) rfl (by kernel_rfl) (by kernel_rfl) (by kernel_rfl) (fun _ _ _ h => h) (Or.inr ⟨by kernel_rfl, rfl⟩) ?_
    refine wpAny_take (i := 29) (v := .bool false) rfl (by kernel_rfl) (by kernel_rfl) (by kernel_rfl) (fun _ _ _ h => h) (Or.inl ⟨by kernel_rfl, fun w => by kernel_rfl⟩) ?_
    refine wpAny_take (i := 30) (v := .bool false) rfl (by kernel_rfl) (by kernel_rfl) (by kernel_rfl) (fun _ _ _ h => h) (Or.inl ⟨by kernel_rfl, fun w => by kernel_rfl⟩) ?_
    refine wpAny_done (by kernel_rfl) ?_ _
    refine fr_gen (Q := Exit.then _ _ .normal) (by kernel_rfl) (by kernel_rfl) ?_
    intro fr h4 hd
    go_wp2
    refine bodyPost_ret (res41 h4) hd ?_
    exact ⟨⟨false, rfl, ⟨fun h => (by cases h), fun h => absurd (isk2.1 h).2.1 (by rw [hl.out]; simp)⟩⟩, ext_trans hbU.drew hb1⟩
set_option maxRecDepth 20000 in
set_option maxHeartbeats 4000000 in
theorem fu2_c (t : List UInt8) (n : Int) (ks : List Nd) (hq : n = 0 ∧ nameB t = true) (hl : 0 < ks.length) (hn : ¬ ∀ y ∈ ks.take (ks.length - 1), isK 3 y) : Ask 41 (isK 2) ⟨2, t, n, ks⟩ := by
  intro m S b cap w hW hok hN
  have hB := (fn_new w m ⟨2, t, n, ks⟩ b cap).b
  rw [okN] at hok
  obtain ⟨hok1, hok2, hok3, hok5, hok4⟩ := hok
  rw [okN_go] at hok4
  obtain ⟨U, hU⟩ : ∃ U, (w.alloc m.x).alloc (nbx ⟨2, t, n, ks⟩ b cap) = U := ⟨_, rfl⟩
  rw [hU] at hB
  replace hU : (w.alloc (.cells #[.map (some m.a), .map (some m.b), .map (some m.c), .map (some m.d), .map (some m.e)] 50)).alloc (.cells #[.int .i64 2, sk t, .int .i64 n, .slice b ks.length cap] 24) = U := hU
  have hB0 := hB
  obtain ⟨⟨g1, g2, hbU⟩, ⟨c0, c1, c2, c3, f0, f1, f2, f3⟩, ⟨d0, d1, d2, d3, d4⟩⟩ := hB0
  obtain ⟨⟨lim, hWd⟩, hE⟩ := hW.on hbU.drew
  have hNm := named_any ⟨2, t, n, ks⟩ b cap m.a m.b m.c m.d m.e lim U.drew hE hWd
  dsimp only at hNm
  have hy1 : (n == 0 && nameB t) = true := by simpa using hq
  rw [hy1] at hNm
  obtain ⟨p, hp⟩ : ∃ p, ks.length = p + 1 := ⟨ks.length - 1, by omega⟩
  obtain ⟨y, hy⟩ : ∃ y, ks[p]? = some y := ⟨_, List.getElem?_eq_getElem (by omega)⟩
  have hLe : (ks.length : Int) - 1 = (p : Int) := by omega
  have hcapL : ks.length ≤ cap := (KA.of hN).1
  obtain ⟨g, off, b', cap', rfl, v0, v1, v2, v3, hyV⟩ := KA.at (KA.of hN) hy
  have hA := fun u (hb : Below w.heap.size w u) => all_75 (isK 3) (ks.take p) (some ⟨g, off, none⟩) cap m S u (by simp; omega) (hW.on hb) (KA.take (KA.of (hN.below hb)) p) (fun y hy => hok4 y (List.mem_of_mem_take hy)) (fun y _ => ask_p y)
  rw [show (ks.take p).length = p by simp; omega] at hA
  have hBl := fun u (hb : Below w.heap.size w u) => (ask_bs y).1 m S b' cap' u (hW.on hb) (hok4 y (List.mem_of_getElem? hy)) (hyV.below hb)
  have hpl : p < ks.length := by omega
  have hple : p ≤ ks.length := by omega
  have hi1 : (0 : Int) ≤ (p : Int) := by omega
  have hi2 : (p : Int) ≤ (ks.length : Int) := by omega
  have hi3 : (p : Int) ≤ (cap : Int) := by omega
  have hi4 : (p : Int) < (ks.length : Int) := by omega
  rw [hp, Nat.add_sub_cancel] at hn
  have hA1 := fun u hb => Ans.not (hA u hb) hn
  replace hq : Hid _ := hq
  replace hn : Hid _ := hn
  replace hp : Hid _ := hp
  clear hy1 hy hA hBl v0 v1 v2 v3 hyV
  go_enter Tryz.func41, Tryz.ntmps41
  go_wp2
  refine wp_region_any (by kernel_rfl) ?_
  change wpAny _ _ _ _ _ _ _ (World.drew _)
  refine wpAny_take (i := 0) (v := ?_) rfl (by kernel_rfl) (by kernel_rfl) (by kernel_rfl) (fun _ _ _ h => h) (Or.inl ⟨by rfl, ?_⟩) ?_
  rotate_left
  · intro w; go_simp; try with_reducible rfl
  refine wpAny_ready (rs := [1]) (by kernel_rfl) (by simp) ?_
  refine AllReady.cons rfl (fun K hK => ?_) AllReady.nil
  go_simp
  refine hK _ _ ?_
  clear hK K
  refine wpAny_take (i := 2) (v := ?_) rfl (by kernel_rfl) (by kernel_rfl) (by kernel_rfl) (fun _ _ _ h => h) (Or.inl ⟨by rfl, ?_⟩) ?_
  rotate_left
  · intro w; go_simp; try with_reducible rfl
  refine wpAny_take (i := 3) (v := ?_) rfl (by kernel_rfl) (by kernel_rfl) (by kernel_rfl) (fun _ _ _ h => h) (Or.inl ⟨by rfl, ?_⟩) ?_
  rotate_left
  · intro w; go_simp; try with_reducible rfl
  refine wpAny_ready (rs := [4, 5]) (by kernel_rfl) (by simp) ?_
  refine AllReady.cons rfl (fun K hK => ?_) (AllReady.cons rfl (fun K hK => ?_) AllReady.nil)
  · go_simp
    refine hK _ _ ?_
    clear hK K
    refine wpAny_ready (rs := [5]) (by kernel_rfl) (by simp) ?_
    refine AllReady.cons rfl (fun K hK => ?_) AllReady.nil
    go_simp
    refine hK _ _ ?_
    clear hK K
    refine wpAny_ready (rs := [6]) (by kernel_rfl) (by simp) ?_
    refine AllReady.cons rfl (fun K hK => ?_) AllReady.nil
    go_simp
    go_wp2_with (go_at_call 74; refine hNm.mono ?_; rintro e w1 ⟨rfl, hb1⟩; replace hB := (hB.on (Below.refl _ _).drew).on hb1; have hB0 := hB; obtain ⟨⟨g1, g2, hbU⟩, ⟨c0, c1, c2, c3, f0, f1, f2, f3⟩, ⟨d0, d1, d2, d3, d4⟩⟩ := hB0)
    try (refine hK _ _ ?_; clear hK K)
    refine wpAny_take (i := 7) (v := .bool true) rfl (by kernel_rfl) (by kernel_rfl) (by kernel_rfl) (fun _ _ _ h => h) (Or.inl ⟨by kernel_rfl, fun w => by kernel_rfl⟩) ?_
    refine wpAny_take (i := 8) (v := .bool true) rfl (by kernel_rfl) (by kernel_rfl) (by kernel_rfl) (fun _ _ _ h => h) (Or.inl ⟨by kernel_rfl, fun w => by kernel_rfl⟩) ?_
    refine wpAny_take (i := 9) (v := .int .i64 (p : Int)) rfl (by kernel_rfl) (by kernel_rfl) (by kernel_rfl) (fun _ _ _ h => h) (Or.inl ⟨by kernel_rfl, fun w => by kernel_rfl⟩) ?_
    refine wpAny_take (i := 10) (v := ?_) rfl (by kernel_rfl) (by kernel_rfl) (by kernel_rfl) (fun _ _ _ h => h) (Or.inl ⟨by rfl, ?_⟩) ?_
    rotate_left
    · intro w; go_simp; try with_reducible rfl
    refine wpAny_take (i := 11) (v := .bool true) rfl (by kernel_rfl) (by kernel_rfl) (by kernel_rfl) (fun _ _ _ h => h) (Or.inl ⟨by kernel_rfl, fun w => by kernel_rfl⟩) ?_
    refine wpAny_take (i := 12) (v := .bool true) rfl (by kernel_rfl) (by kernel_rfl) (by kernel_rfl) (fun _ _ _ h => h) (Or.inl ⟨by kernel_rfl, fun w => by kernel_rfl⟩) ?_
    refine wpAny_take (i := 13) (v := .pointer (some ⟨w.heap.size + 1, 3, none⟩)) rfl (by kernel_rfl) (by kernel_rfl) (by kernel_rfl) (fun _ _ _ h => h) (Or.inl ⟨by kernel_rfl, fun w => by kernel_rfl⟩) ?_
    refine wpAny_take (i := 15) (v := .int .i64 (p : Int)) rfl (by kernel_rfl) (by kernel_rfl) (by kernel_rfl) (fun _ _ _ h => h) (Or.inl ⟨by kernel_rfl, fun w => by kernel_rfl⟩) ?_
    refine wpAny_ready (rs := [14, 17]) (by kernel_rfl) (by simp) ?_
    refine AllReady.cons rfl (fun K hK => ?_) (AllReady.cons rfl (fun K hK => ?_) AllReady.nil)
    · go_simp
      refine hK _ _ ?_
      clear hK K
      refine wpAny_take (i := 16) (v := ?_) rfl (by kernel_rfl) (by kernel_rfl) (by kernel_rfl) (fun _ _ _ h => h) (Or.inl ⟨by rfl, ?_⟩) ?_
      rotate_left
      · intro w; go_simp; try with_reducible rfl
      refine wpAny_ready (rs := [17]) (by kernel_rfl) (by simp) ?_
      refine AllReady.cons rfl (fun K hK => ?_) AllReady.nil
      go_simp
      refine hK _ _ ?_
      clear hK K
      refine wpAny_take (i := 18) (v := ?_) rfl (by kernel_rfl) (by kernel_rfl) (by kernel_rfl) (fun _ _ _ h => h) (Or.inl ⟨by rfl, ?_⟩) ?_
      rotate_left
      · intro w; go_simp; try with_reducible rfl
      refine wpAny_ready (rs := [19]) (by kernel_rfl) (by simp) ?_
      refine AllReady.cons rfl (fun K hK => ?_) AllReady.nil
      go_simp
      go_wp2_with (go_at_call 40; refine (hA1 _ hbU).mono ?_; rintro e w2 ⟨rfl, hb2⟩)
      try (refine hK _ _ ?_; clear hK K)
      refine wpAny_take (i := 20) (v := .bool false) rfl (by kernel_rfl) (by kernel_rfl) (by kernel_rfl) (fun _ _ _ h => h) (Or.inl ⟨by kernel_rfl, fun w => by kernel_rfl⟩) ?_
      refine wpAny_take (i := 21) (v := .bool false) rfl (by kernel_rfl) (by kernel_rfl) (by kernel_rfl) (fun _ _ _ h => h) (Or.inl ⟨by kernel_rfl, fun w => by kernel_rfl⟩) ?_
      refine wpAny_take (i := 22) (v := undef) rfl (by kernel_rfl) (by kernel_rfl) (by kernel_rfl) (fun _ _ _ h => h) (Or.inr ⟨by kernel_rfl, rfl⟩) ?_
      refine wpAny_take (i := 23) (v := undef) rfl (by kernel_rfl) (by kernel_rfl) (by kernel_rfl) (fun _ _ _ h => h) (Or.inr ⟨by kernel_rfl, rfl⟩) ?_
      refine wpAny_take (i := 24) (v := undef) rfl (by kernel_rfl) (by kernel_rfl) (by kernel_rfl) (fun _ _ _ h => h) (Or.inr ⟨by kernel_rfl, rfl⟩) ?_
      refine wpAny_take (i := 25) (v := undef) rfl (by kernel_rfl) (by kernel_rfl) (by kernel_rfl) (fun _ _ _ h => h) (Or.inr ⟨by kernel_rfl, rfl⟩) ?_
      refine wpAny_take (i := 26) (v := undef) rfl (by kernel_rfl) (by kernel_rfl) (by kernel_rfl) (fun _ _ _ h => h) (Or.inr ⟨by kernel_rfl, rfl⟩) ?_
      refine wpAny_take (i := 27) (v := undef) rfl (by kernel_rfl) (by kernel_rfl) (by kernel_rfl) (fun _ _ _ h => h) (Or.inr ⟨by kernel_rfl, rfl⟩) ?_
      refine wpAny_take (i := 28) (v := undef) rfl (by kernel_rfl) (by kernel_rfl) (by kernel_rfl) (fun _ _ _ h => h) (Or.inr ⟨by kernel_rfl, rfl⟩) ?_
      refine wpAny_take (i := 29) (v := .bool false) rfl (by kernel_rfl) (by kernel_rfl) (by kernel_rfl) (fun _ _ _ h => h) (Or.inl ⟨by kernel_rfl, fun w => by kernel_rfl⟩) ?_
      refine wpAny_take (i := 30) (v := .bool false) rfl (by kernel_rfl) (by kernel_rfl) (by kernel_rfl) (fun _ _ _ h => h) (Or.inl ⟨by kernel_rfl, fun w => by kernel_rfl⟩) ?_
      refine wpAny_done (by kernel_rfl) ?_ _
      refine fr_gen (Q := Exit.then _ _ .normal) (by kernel_rfl) (by kernel_rfl) ?_
      intro fr h4 hd
      go_wp2
      refine bodyPost_ret (res41 h4) hd ?_
      exact ⟨⟨false, rfl, ⟨fun h => (by cases h), fun h => absurd (isk2.1 h).2.2.1 (by rw [hp.out, Nat.add_sub_cancel]; exact hn.out)⟩⟩, ext_trans hbU hb2⟩
    · go_simp
      refine hK _ _ ?_
      clear hK K
      refine wpAny_take (i := 18) (v := ?_) rfl (by kernel_rfl) (by kernel_rfl) (by kernel_rfl) (fun _ _ _ h => h) (Or.inl ⟨by rfl, ?_⟩) ?_
      rotate_left
      · intro w; go_simp; try with_reducible rfl
      refine wpAny_ready (rs := [14]) (by kernel_rfl) (by simp) ?_
      refine AllReady.cons rfl (fun K hK => ?_) AllReady.nil
      go_simp
      refine hK _ _ ?_
      clear hK K
      refine wpAny_take (i := 16) (v := ?_) rfl (by kernel_rfl) (by kernel_rfl) (by kernel_rfl) (fun _ _ _ h => h) (Or.inl ⟨by rfl, ?_⟩) ?_
      rotate_left
      · intro w; go_simp; try with_reducible rfl
      refine wpAny_ready (rs := [19]) (by kernel_rfl) (by simp) ?_
      refine AllReady.cons rfl (fun K hK => ?_) AllReady.nil
      go_simp
      go_wp2_with (go_at_call 40; refine (hA1 _ hbU).mono ?_; rintro e w2 ⟨rfl, hb2⟩)
      try (refine hK _ _ ?_; clear hK K)
      refine wpAny_take (i := 20) (v := .bool false) rfl (by kernel_rfl) (by kernel_rfl) (by kernel_rfl) (fun _ _ _ h => h) (Or.inl ⟨by kernel_rfl, fun w => by kernel_rfl⟩) ?_
      refine wpAny_take (i := 21) (v := .bool false) rfl (by kernel_rfl) (by kernel_rfl) (by kernel_rfl) (fun _ _ _ h => h) (Or.inl ⟨by kernel_rfl, fun w => by kernel_rfl⟩) ?_
      refine wpAny_take (i := 22) (v := undef) rfl (by kernel_rfl) (by kernel_rfl) (by kernel_rfl) (fun _ _ _ h => h) (Or.inr ⟨by kernel_rfl, rfl⟩) ?_
      refine wpAny_take (i := 23) (v := undef) rfl (by kernel_rfl) (by kernel_rfl) (by kernel_rfl) (fun _ _ _ h => h) (Or.inr ⟨by kernel_rfl, rfl⟩) ?_
      refine wpAny_take (i := 24) (v := undef) rfl (by kernel_rfl) (by kernel_rfl) (by kernel_rfl) (fun _ _ _ h => h) (Or.inr ⟨by kernel_rfl, rfl⟩) ?_
      refine wpAny_take (i := 25) (v := undef) rfl (by kernel_rfl) (by kernel_rfl) (by kernel_rfl) (fun _ _ _ h => h) (Or.inr ⟨by kernel_rfl, rfl⟩) ?_
      refine wpAny_take (i := 26) (v := undef) rfl (by kernel_rfl) (by kernel_rfl) (by kernel_rfl) (fun _ _ _ h => h) (Or.inr ⟨by kernel_rfl, rfl⟩) ?_
      refine wpAny_take (i := 27) (v := undef) rfl (by kernel_rfl) (by kernel_rfl) (by kernel_rfl) (fun _ _ _ h => h) (Or.inr ⟨by kernel_rfl, rfl⟩) ?_
      refine wpAny_take (i := 28) (v := undef) rfl (by kernel_rfl) (by kernel_rfl) (by kernel_rfl) (fun _ _ _ h => h) (Or.inr ⟨by kernel_rfl, rfl⟩) ?_
      refine wpAny_take (i := 29) (v := .bool false) rfl (by kernel_rfl) (by kernel_rfl) (by kernel_rfl) (fun _ _ _ h => h) (Or.inl ⟨by kernel_rfl, fun w => by kernel_rfl⟩) ?_
      refine wpAny_take (i := 30) (v := .bool false) rfl (by kernel_rfl) (by kernel_rfl) (by kernel_rfl) (fun _ _ _ h => h) (Or.inl ⟨by kernel_rfl, fun w => by kernel_rfl⟩) ?_
      refine wpAny_done (by kernel_rfl) ?_ _
      refine fr_gen (Q := Exit.then _ _ .normal) (by kernel_rfl) (by kernel_rfl) ?_
      intro fr h4 hd
      go_wp2
      refine bodyPost_ret (res41 h4) hd ?_
      exact ⟨⟨false, rfl, ⟨fun h => (by cases h), fun h => absurd (isk2.1 h).2.2.1 (by rw [hp.out, Nat.add_sub_cancel]; exact hn.out)⟩⟩, ext_trans hbU hb2⟩
  · go_simp
    refine hK _ _ ?_
    clear hK K
    refine wpAny_ready (rs := [4]) (by kernel_rfl) (by simp) ?_
    refine AllReady.cons rfl (fun K hK => ?_) AllReady.nil
    go_simp
    refine hK _ _ ?_
    clear hK K
    refine wpAny_ready (rs := [6]) (by kernel_rfl) (by simp) ?_
    refine AllReady.cons rfl (fun K hK => ?_) AllReady.nil
    go_simp
    go_wp2_with (go_at_call 74; refine hNm.mono ?_; rintro e w1 ⟨rfl, hb1⟩; replace hB := (hB.on (Below.refl _ _).drew).on hb1; have hB0 := hB; obtain ⟨⟨g1, g2, hbU⟩, ⟨c0, c1, c2, c3, f0, f1, f2, f3⟩, ⟨d0, d1, d2, d3, d4⟩⟩ := hB0)
    try (refine hK _ _ ?_; clear hK K)
    refine wpAny_take (i := 7) (v := .bool true) rfl (by kernel_rfl) (by kernel_rfl) (by kernel_rfl) (fun _ _ _ h => h) (Or.inl ⟨by kernel_rfl, fun w => by kernel_rfl⟩) ?_
    refine wpAny_take (i := 8) (v := .bool true) rfl (by kernel_rfl) (by kernel_rfl) (by kernel_rfl) (fun _ _ _ h => h) (Or.inl ⟨by kernel_rfl, fun w => by kernel_rfl⟩) ?_
    refine wpAny_take (i := 9) (v := .int .i64 (p : Int)) rfl (by kernel_rfl) (by kernel_rfl) (by kernel_rfl) (fun _ _ _ h => h) (Or.inl ⟨by kernel_rfl, fun w => by kernel_rfl⟩) ?_
    refine wpAny_take (i := 10) (v := ?_) rfl (by kernel_rfl) (by kernel_rfl) (by kernel_rfl) (fun _ _ _ h => h) (Or.inl ⟨by rfl, ?_⟩) ?_
    rotate_left
    · intro w; go_simp; try with_reducible rfl
    refine wpAny_take (i := 11) (v := .bool true) rfl (by kernel_rfl) (by kernel_rfl) (by kernel_rfl) (fun _ _ _ h => h) (Or.inl ⟨by kernel_rfl, fun w => by kernel_rfl⟩) ?_
    refine wpAny_take (i := 12) (v := .bool true) rfl (by kernel_rfl) (by kernel_rfl) (by kernel_rfl) (fun _ _ _ h => h) (Or.inl ⟨by kernel_rfl, fun w => by kernel_rfl⟩) ?_
    refine wpAny_take (i := 13) (v := .pointer (some ⟨w.heap.size + 1, 3, none⟩)) rfl (by kernel_rfl) (by kernel_rfl) (by kernel_rfl) (fun _ _ _ h => h) (Or.inl ⟨by kernel_rfl, fun w => by kernel_rfl⟩) ?_
    refine wpAny_take (i := 15) (v := .int .i64 (p : Int)) rfl (by kernel_rfl) (by kernel_rfl) (by kernel_rfl) (fun _ _ _ h => h) (Or.inl ⟨by kernel_rfl, fun w => by kernel_rfl⟩) ?_
    refine wpAny_ready (rs := [14, 17]) (by kernel_rfl) (by simp) ?_
    refine AllReady.cons rfl (fun K hK => ?_) (AllReady.cons rfl (fun K hK => ?_) AllReady.nil)
    · go_simp
      refine hK _ _ ?_
      clear hK K
      refine wpAny_take (i := 16) (v := ?_) rfl (by kernel_rfl) (by kernel_rfl) (by kernel_rfl) (fun _ _ _ h => h) (Or.inl ⟨by rfl, ?_⟩) ?_
      rotate_left
      · intro w; go_simp; try with_reducible rfl
      refine wpAny_ready (rs := [17]) (by kernel_rfl) (by simp) ?_
      refine AllReady.cons rfl (fun K hK => ?_) AllReady.nil
      go_simp
      refine hK _ _ ?_
      clear hK K
      refine wpAny_take (i := 18) (v := ?_) rfl (by kernel_rfl) (by kernel_rfl) (by kernel_rfl) (fun _ _ _ h => h) (Or.inl ⟨by rfl, ?_⟩) ?_
      rotate_left
      · intro w; go_simp; try with_reducible rfl
      refine wpAny_ready (rs := [19]) (by kernel_rfl) (by simp) ?_
      refine AllReady.cons rfl (fun K hK => ?_) AllReady.nil
      go_simp
      go_wp2_with (go_at_call 40; refine (hA1 _ hbU).mono ?_; rintro e w2 ⟨rfl, hb2⟩)
      try (refine hK _ _ ?_; clear hK K)
      refine wpAny_take (i := 20) (v := .bool false) rfl (by kernel_rfl) (by kernel_rfl) (by kernel_rfl) (fun _ _ _ h => h) (Or.inl ⟨by kernel_rfl, fun w => by kernel_rfl⟩) ?_
      refine wpAny_take (i := 21) (v := .bool false) rfl (by kernel_rfl) (by kernel_rfl) (by kernel_rfl) (fun _ _ _ h => h) (Or.inl ⟨by kernel_rfl, fun w => by kernel_rfl⟩) ?_
      refine wpAny_take (i := 22) (v := undef) rfl (by kernel_rfl) (by kernel_rfl) (by kernel_rfl) (fun _ _ _ h => h) (Or.inr ⟨by kernel_rfl, rfl⟩) ?_
      refine wpAny_take (i := 23) (v := undef) rfl (by kernel_rfl) (by kernel_rfl) (by kernel_rfl) (fun _ _ _ h => h) (Or.inr ⟨by kernel_rfl, rfl⟩) ?_
      refine wpAny_take (i := 24) (v := undef) rfl (by kernel_rfl) (by kernel_rfl) (by kernel_rfl) (fun _ _ _ h => h) (Or.inr ⟨by kernel_rfl, rfl⟩) ?_
      refine wpAny_take (i := 25) (v := undef) rfl (by kernel_rfl) (by kernel_rfl) (by kernel_rfl) (fun _ _ _ h => h) (Or.inr ⟨by kernel_rfl, rfl⟩) ?_
      refine wpAny_take (i := 26) (v := undef) rfl (by kernel_rfl) (by kernel_rfl) (by kernel_rfl) (fun _ _ _ h => h) (Or.inr ⟨by kernel_rfl, rfl⟩) ?_
      refine wpAny_take (i := 27) (v := undef) rfl (by kernel_rfl) (by kernel_rfl) (by kernel_rfl) (fun _ _ _ h => h) (Or.inr ⟨by kernel_rfl, rfl⟩) ?_
      refine wpAny_take (i := 28) (v := undef) rfl (by kernel_rfl) (by kernel_rfl) (by kernel_rfl) (fun _ _ _ h => h) (Or.inr ⟨by kernel_rfl, rfl⟩) ?_
      refine wpAny_take (i := 29) (v := .bool false) rfl (by kernel_rfl) (by kernel_rfl) (by kernel_rfl) (fun _ _ _ h => h) (Or.inl ⟨by kernel_rfl, fun w => by kernel_rfl⟩) ?_
      refine wpAny_take (i := 30) (v := .bool false) rfl (by kernel_rfl) (by kernel_rfl) (by kernel_rfl) (fun _ _ _ h => h) (Or.inl ⟨by kernel_rfl, fun w => by kernel_rfl⟩) ?_
      refine wpAny_done (by kernel_rfl) ?_ _
      refine fr_gen (Q := Exit.then _ _ .normal) (by kernel_rfl) (by kernel_rfl) ?_
      intro fr h4 hd
      go_wp2
      refine bodyPost_ret (res41 h4) hd ?_
      exact ⟨⟨false, rfl, ⟨fun h => (by cases h), fun h => absurd (isk2.1 h).2.2.1 (by rw [hp.out, Nat.add_sub_cancel]; exact hn.out)⟩⟩, ext_trans hbU hb2⟩
    · go_simp
      refine hK _ _ ?_
      clear hK K
      refine wpAny_take (i := 18) (v := ?_) rfl (by kernel_rfl) (by kernel_rfl) (by kernel_rfl) (fun _ _ _ h => h) (Or.inl ⟨by rfl, ?_⟩) ?_
      rotate_left
      · intro w; go_simp; try with_reducible rfl
      refine wpAny_ready (rs := [14]) (by kernel_rfl) (by simp) ?_
      refine AllReady.cons rfl (fun K hK => ?_) AllReady.nil
      go_simp
      refine hK _ _ ?_
      clear hK K
      refine wpAny_take (i := 16) (v := ?_) rfl (by kernel_rfl) (by kernel_rfl) (by kernel_rfl) (fun _ _ _ h => h) (Or.inl ⟨by rfl, ?_⟩) ?_
      rotate_left
      · intro w; go_simp; try with_reducible rfl
      refine wpAny_ready (rs := [19]) (by kernel_rfl) (by simp) ?_
      refine AllReady.cons rfl (fun K hK => ?_) AllReady.nil
      go_simp
      go_wp2_with (go_at_call 40; refine (hA1 _ hbU).mono ?_; rintro e w2 ⟨rfl, hb2⟩)
      try (refine hK _ _ ?_; clear hK K)
      refine wpAny_take (i := 20) (v := .bool false) rfl (by kernel_rfl) (by kernel_rfl) (by kernel_rfl) (fun _ _ _ h => h) (Or.inl ⟨by kernel_rfl, fun w => by kernel_rfl⟩) ?_
      refine wpAny_take (i := 21) (v := .bool false) rfl (by kernel_rfl) (by kernel_rfl) (by kernel_rfl) (fun _ _ _ h => h) (Or.inl ⟨by kernel_rfl, fun w => by kernel_rfl⟩) ?_
      refine wpAny_take (i := 22) (v := undef) rfl (by kernel_rfl) (by kernel_rfl) (by kernel_rfl) (fun _ _ _ h => h) (Or.inr ⟨by kernel_rfl, rfl⟩) ?_
      refine wpAny_take (i := 23) (v := undef) rfl (by kernel_rfl) (by kernel_rfl) (by kernel_rfl) (fun _ _ _ h => h) (Or.inr ⟨by kernel_rfl, rfl⟩) ?_
      refine wpAny_take (i := 24) (v := undef) rfl (by kernel_rfl) (by kernel_rfl) (by kernel_rfl) (fun _ _ _ h => h) (Or.inr ⟨by kernel_rfl, rfl⟩) ?_
      refine wpAny_take (i := 25) (v := undef) rfl (by kernel_rfl) (by kernel_rfl) (by kernel_rfl) (fun _ _ _ h => h) (Or.inr ⟨by kernel_rfl, rfl⟩) ?_
      refine wpAny_take (i := 26) (v := undef) rfl (by kernel_rfl) (by kernel_rfl) (by kernel_rfl) (fun _ _ _ h => h) (Or.inr ⟨by kernel_rfl, rfl⟩) ?_
      refine wpAny_take (i := 27) (v := undef) rfl (by kernel_rfl) (by kernel_rfl) (by kernel_rfl) (fun _ _ _ h => h) (Or.inr ⟨by kernel_rfl, rfl⟩) ?_
      refine wpAny_take (i := 28) (v := undef) rfl (by kernel_rfl) (by kernel_rfl) (by kernel_rfl) (fun _ _ _ h => h) (Or.inr ⟨by kernel_rfl, rfl⟩) ?_
      refine wpAny_take (i := 29) (v := .bool false) rfl (by kernel_rfl) (by kernel_rfl) (by kernel_rfl) (fun _ _ _ h => h) (Or.inl ⟨by kernel_rfl, fun w => by kernel_rfl⟩) ?_
      refine wpAny_take (i := 30) (v := .bool false) rfl (by kernel_rfl) (by kernel_rfl) (by kernel_rfl) (fun _ _ _ h => h) (Or.inl ⟨by kernel_rfl, fun w => by kernel_rfl⟩) ?_
      refine wpAny_done (by kernel_rfl) ?_ _
      refine fr_gen (Q := Exit.then _ _ .normal) (by kernel_rfl) (by kernel_rfl) ?_
      intro fr h4 hd
      go_wp2
      refine bodyPost_ret (res41 h4) hd ?_
      exact ⟨⟨false, rfl, ⟨fun h => (by cases h), fun h => absurd (isk2.1 h).2.2.1 (by rw [hp.out, Nat.add_sub_cancel]; exact hn.out)⟩⟩, ext_trans hbU hb2⟩
theorem ask_f (x : Nd) : Ask 41 (isK 2) x := by
  obtain ⟨k, t, n, ks⟩ := x
  by_cases hk : k = 2
  · subst hk
    by_cases h1 : n = 0 ∧ nameB t = true
    · by_cases h2 : ks = []
      · exact fu2_b t n ks h1 h2
      · have h3 := List.length_pos_iff.2 h2
        by_cases h4 : ∀ y ∈ ks.take (ks.length - 1), isK 3 y
        · exact fu2_d t n ks h1 h3 h4
        · exact fu2_c t n ks h1 h3 h4
    · exact fu2_a t n ks h1
  · exact fu_none t n ks k hk
theorem ask_u (x : Nd) : Ask 19 (isK 1) x := by
  obtain ⟨k, t, n, ks⟩ := x
  by_cases hk : k = 1
  · subst hk
    exact un1 t n ks (fun y _ => ask_f y)
  · exact un_none t n ks k hk
end Go.Proofs.YtbofdfdmikhanaaGreatDoor
