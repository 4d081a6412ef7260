/- The program's Print of a program. The program's Print of what is none. A node that is handed in. -/
import Derived.Test.YtbdkiimggggndaaGreatDoorJ24
import Derived.Test.YtbdkiimggggndaaGreatDoorJ15
import Derived.Test.YtbdkiimggggndaaGreatDoorJ14
import Derived.Lib.SmallJoins
import Derived.Test.YtbdkiimggggndaaGreatDoorJ23
import Derived.Test.YtbdkiimggggndaaGreatDoorRows
import Derived.ProofKit
import Derived.LaidMore
import Derived.OpenShut
import Derived.Deep.Slices
import Derived.Carry
namespace Go.Proofs.YtbdkiimggggndaaGreatDoor
open Go.RowKit
open Go

theorem cells_own {W : World} {base : Nat} {b : Option Addr} {ts : List (List UInt8)} {cap : Nat} (h : W.ownsRow base 9 1 (.slice b ts.length cap) ts.length (ts.map sk)) (hne : ts ≠ []) : ∃ g, b = some ⟨g, 0, none⟩ ∧ g < W.heap.size ∧ ts.length ≤ cap ∧ ∀ (j : Nat) x, (ts.map fun t => (⟨t.toArray⟩ : ByteArray))[j]? = some x → W.cell? ⟨g, 0 + j, none⟩ = some (.string x) := by
  rcases h.2 with ⟨e, h0⟩ | ⟨g, cap', cur, e, _, hg, hc, _, hsz, ht⟩
  · exact absurd (List.length_eq_zero_iff.1 h0) hne
  · cases e
    refine ⟨g, rfl, block_lt hg, hc, fun j x hx => ?_⟩
    have hj : j < ts.length := by have := (List.getElem?_eq_some_iff.1 hx).1; simpa using this
    have h2 : cur.toList[j]? = (ts.map sk)[j]? := by
      rw [← ht, List.getElem?_take_of_lt (by omega)]
    have h3 : (ts.map sk)[j]? = some (.string x) := by
      simp only [List.getElem?_map, Option.map_eq_some_iff] at hx ⊢
      obtain ⟨t, h4, rfl⟩ := hx
      exact ⟨t, h4, rfl⟩
    rw [h3] at h2
    rw [Nat.zero_add]
    simp only [World.cell?, hg]
    simpa using h2
theorem join_own {W : World} {base : Nat} {b : Option Addr} {n : Nd} {cap : Nat} (h : W.ownsRow base 9 1 (.slice b (bsN n).length cap) (bsN n).length ((bsN n).map sk)) (htl : (textT (showT n)).length ≤ 10000000) (hl : (bsN n).length ≤ 1000000) : Calls Tryz.prog 21 #[.slice b (bsN n).length cap, .string ⟨#[32]⟩] W fun e w' => e = .returned (sk (textT (showT n))) ∧ Below W.heap.size W w' := by
  have hj : Lib.join (bsN n) [32] = textT (showT n) := join_text (showT n)
  by_cases hne : bsN n = []
  · rw [← hj, hne]
    refine (Tryz.strings_Join_none b cap ⟨#[32]⟩ W).mono ?_
    rintro e w' ⟨rfl, rfl⟩
    exact ⟨rfl, Below.refl _ _⟩
  · obtain ⟨g, rfl, hg, hc, hcells⟩ := cells_own h hne
    have e1 : ((bsN n).map fun t => (⟨t.toArray⟩ : ByteArray)).map (·.data.toList) = bsN n := by
      rw [List.map_map]
      exact (List.map_congr_left (g := id) (fun t _ => by simp)).trans (List.map_id _)
    have e2 : (⟨#[32]⟩ : ByteArray).data.toList = [32] := rfl
    have := Tryz.strings_Join g 0 cap ((bsN n).map fun t => (⟨t.toArray⟩ : ByteArray)) ⟨#[32]⟩ W hcells hg (by simp; omega) (by simpa using hc) (by rw [e1, e2, hj]; omega)
    rw [e1, e2, hj] at this
    simpa using this
set_option maxRecDepth 20000 in
set_option maxHeartbeats 2000000 in
theorem print_yes (n : Nd) (hf : fitB n = true) (hu : isK 1 n) (S : Nat → Prop) (b : Option Addr) (cap : Nat) (w : World) (hE : ErrV w) (hsp : SpTab w) (hp10 : Lib.TabIs Tryz.prog w "internal/strconv.uint64pow10" .u64 Lib.pow10Tab) (hN : NdV S w n (ndv n b cap)) (htl : (textT (showT n)).length ≤ 10000000) : Calls Tryz.prog 10 #[ndv n b cap] w fun e w' => e = .returned (.tuple #[sk (if 4000 < (textT (showT n)).length then [] else textT (showT n)), .int .i64 (if 4000 < (textT (showT n)).length then 1 else 0)]) ∧ Below w.heap.size w w' := by
  obtain ⟨tx, htx⟩ : ∃ t, textT (showT n) = t := ⟨_, rfl⟩
  obtain ⟨r1, hr1⟩ : ∃ r, (if 4000 < (textT (showT n)).length then [] else textT (showT n)) = r := ⟨_, rfl⟩
  obtain ⟨r2, hr2⟩ : ∃ r : Int, (if 4000 < (textT (showT n)).length then 1 else 0) = r := ⟨_, rfl⟩
  rw [hr1, hr2]
  rw [htx] at hr1 hr2
  replace hr1 : Hid _ := hr1
  replace hr2 : Hid _ := hr2
  have hm : manyN n ≤ 600 := by unfold fitB at hf; exact (of_decide_eq_true hf).2
  have hok := okN_of n hu.1 hm
  have hb0 := ext_alloc (Below.refl w.heap.size w) (nbx n b cap)
  have g0 := alloc_new w (nbx n b cap)
  obtain ⟨U, hU⟩ : ∃ U, w.alloc (nbx n b cap) = U := ⟨_, rfl⟩
  rw [hU] at hb0 g0
  replace hU : w.alloc (.cells #[.int .i64 n.k, sk n.t, .int .i64 n.n, .slice b n.kids.length cap] 24) = U := hU
  have hFt := fits_any S n b cap U (hN.below hb0)
  rw [hf] at hFt
  have hWn := fun u (hb : Below w.heap.size w u) => newWords_any u (hsp.below hb)
  have hPu := puts_u n hu hm
  have hAu := ask_u_of n hu
  obtain ⟨c0, c1, c2, c3, f0, f1, f2, f3⟩ := in4 g0
  have hqu : Hid (isK 1 n) := hu
  have hlen := show_len_le n
  replace hlen : Hid _ := hlen
  clear hu hf
  go_enter Tryz.func10, Tryz.ntmps10
  go_wp2_with (first | (go_at_call 14; refine hFt.mono ?_; rintro e w1 ⟨rfl, hb1⟩; have hbw1 := ext_trans hb0 hb1; have g1 := block_below hb1 g0; obtain ⟨c0, c1, c2, c3, f0, f1, f2, f3⟩ := in4 g1) | (go_at_call 18; refine (hWn _ hbw1).mono ?_; rintro e w2 ⟨m1, m2, m3, m4, m5, rfl, hWd, hb2⟩; have hbw2 := ext_trans hbw1 hb2; have g2 := block_below hb2 g1; refine Hid.out ?_))
  obtain ⟨m, hme⟩ : ∃ m : Wm, m = ⟨m1, m2, m3, m4, m5⟩ := ⟨_, rfl⟩
  have hWE2 : WE m w2 := by rw [hme]; exact ⟨⟨_, hWd⟩, hE.on hbw2⟩
  have hWF2 : WF m w2 := ⟨hWE2, Go.Joins.tab_stays (g := 5) (by kernel_rfl) hp10 hbw2 (Nat.le_refl _)⟩
  have hbA := ext_alloc (Below.refl w2.heap.size w2) (wrb m none 0 0)
  have gB := alloc_new w2 (wrb m none 0 0)
  have hWt : Wt w2 w2.heap.size m [] (w2.alloc (wrb m none 0 0)) := ⟨⟨none, 0, gB, ⟨rfl, .inl ⟨rfl, rfl⟩⟩, fun q e => by simp [Value.ownBlock] at e⟩, hbA, Nat.le_refl _⟩
  have gA := block_below hbA g2
  have hwz := block_lt g2
  obtain ⟨B, hB⟩ : ∃ B, w2.heap.size = B := ⟨_, rfl⟩
  obtain ⟨A, hA⟩ : ∃ A, w2.alloc (wrb m none 0 0) = A := ⟨_, rfl⟩
  rw [hA] at hbA gB hWt gA
  rw [hB] at gB hWt hwz
  have hN2 := hN.below hbw2
  have hu1 := Ans.yes (hAu m S b cap A (hWE2.on hbA) hok (hN2.below hbA)) hqu.out
  have hPu1 := fun u (h : Wt w2 B m [] u) => hPu m S b cap w2 B [] u hWF2 hN2 h (by unfold bsN; simp; have := hlen.out; omega)
  rw [List.nil_append] at hPu1
  have hmA : A.heap[B]? = some (.cells #[.map (some m1), .map (some m2), .map (some m3), .map (some m4), .map (some m5), .slice none 0 0] 54) := by rw [gB, hme]
  rw [show m.v = .agg #[.map (some m1), .map (some m2), .map (some m3), .map (some m4), .map (some m5)] by rw [hme]] at hu1
  replace hA : w2.alloc (.cells #[.map (some m1), .map (some m2), .map (some m3), .map (some m4), .map (some m5), .slice none 0 0] 54) = A := by rw [← hA, hme]
  have x0 : A.cell? ⟨B, 0, none⟩ = some (.map (some m1)) := cell_block hmA rfl
  have x1 : A.cell? ⟨B, 1, none⟩ = some (.map (some m2)) := cell_block hmA rfl
  have x2 : A.cell? ⟨B, 2, none⟩ = some (.map (some m3)) := cell_block hmA rfl
  have x3 : A.cell? ⟨B, 3, none⟩ = some (.map (some m4)) := cell_block hmA rfl
  have x4 : A.cell? ⟨B, 4, none⟩ = some (.map (some m5)) := cell_block hmA rfl
  obtain ⟨c0, c1, c2, c3, f0, f1, f2, f3⟩ := in4 gA
  have aP : Apart B A w.heap.size := ⟨by omega, fun a0 a1 a2 a3 a4 v hv e => by
    have := (hWt.own_lt hv e).2
    omega⟩
  clear hFt hWn hPu hAu hWd hmA
  replace hA : Hid _ := hA
  replace hB : Hid _ := hB
  obtain ⟨z0, z1, z2, z3, z4, z5, z6, z7⟩ := in4a g2
  refine Lib.hid ?_
  go_wp2_with (go_at_call 19; refine Hid.out ?_)
  have hA' := hA.out
  have hB' := hB.out
  rw [hA', hB']
  clear hA hB hA' hB'
  refine Lib.hid ?_
  refine hu1.mono ?_
  rintro e w3 ⟨rfl, hb3⟩
  have hT3 := hWt.on hb3
  have g3 := block_below hb3 gA
  obtain ⟨c0, c1, c2, c3, f0, f1, f2, f3⟩ := in4 g3
  go_wp2_with (first | (go_at_call 21; refine Hid.out ?_) | (go_at_call 20; refine (hPu1 _ hT3).mono ?_; rintro e w4 q4; have e4 := q4.e; subst e4; obtain ⟨bt, capt, hbox, hown, _⟩ := q4.t.box; have y5 : w4.cell? ⟨B, 5, none⟩ = some (.slice bt (bsN n).length capt) := cell_block hbox rfl))
  have hJ := join_own hown htl (by unfold bsN; simp; have := hlen.out; omega)
  have hb4 : Below w.heap.size w w4 := ext_trans hbw2 q4.t.bl
  rw [htx] at hJ htl
  refine Lib.hid ?_
  by_cases h4 : 4000 < tx.length
  · have h4' : (4000 : Int) < (tx.length : Int) := by omega
    go_wp2_with (go_at_call 21; refine hJ.mono ?_; rintro e w5 ⟨rfl, hb5⟩)
    have h1 := hr1.out
    have h2 := hr2.out
    rw [if_pos h4] at h1 h2
    subst h1 h2
    go_ret2
    exact ⟨rfl, ext_trans hb4 hb5⟩
  · have h4' : ¬ (4000 : Int) < (tx.length : Int) := by omega
    go_wp2_with (go_at_call 21; refine hJ.mono ?_; rintro e w5 ⟨rfl, hb5⟩)
    have h1 := hr1.out
    have h2 := hr2.out
    rw [if_neg h4] at h1 h2
    subst h1 h2
    go_ret2
    exact ⟨rfl, ext_trans hb4 hb5⟩
end Go.Proofs.YtbdkiimggggndaaGreatDoor
namespace Go.Proofs.YtbdkiimggggndaaGreatDoor
open Go.RowKit
open Go

set_option maxRecDepth 20000 in
set_option maxHeartbeats 1000000 in
theorem print_big (n : Nd) (hf : fitB n = false) (S : Nat → Prop) (b : Option Addr) (cap : Nat) (w : World) (hN : NdV S w n (ndv n b cap)) : Calls Tryz.prog 10 #[ndv n b cap] w fun e w' => e = .returned (.tuple #[sk [], .int .i64 1]) ∧ Below w.heap.size w w' := by
  have hb0 := ext_alloc (Below.refl w.heap.size w) (nbx n b cap)
  have g0 := alloc_new w (nbx n b cap)
  obtain ⟨U, hU⟩ : ∃ U, w.alloc (nbx n b cap) = U := ⟨_, rfl⟩
  rw [hU] at hb0 g0
  replace hU : w.alloc (.cells #[.int .i64 n.k, sk n.t, .int .i64 n.n, .slice b n.kids.length cap] 24) = U := hU
  have hFt := fits_any S n b cap U (hN.below hb0)
  rw [hf] at hFt
  obtain ⟨c0, c1, c2, c3, f0, f1, f2, f3⟩ := in4 g0
  clear hf
  go_enter Tryz.func10, Tryz.ntmps10
  go_wp2_with (go_at_call 14; refine hFt.mono ?_; rintro e w1 ⟨rfl, hb1⟩)
  go_ret2
  exact ⟨rfl, ext_trans hb0 hb1⟩
set_option maxRecDepth 20000 in
set_option maxHeartbeats 2000000 in
theorem print_form (n : Nd) (hf : fitB n = true) (hu : ¬ isK 1 n) (hok : okN n) (S : Nat → Prop) (b : Option Addr) (cap : Nat) (w : World) (hE : ErrV w) (hsp : SpTab w) (hN : NdV S w n (ndv n b cap)) : Calls Tryz.prog 10 #[ndv n b cap] w fun e w' => e = .returned (.tuple #[sk [], .int .i64 2]) ∧ Below w.heap.size w w' := by
  have hb0 := ext_alloc (Below.refl w.heap.size w) (nbx n b cap)
  have g0 := alloc_new w (nbx n b cap)
  obtain ⟨U, hU⟩ : ∃ U, w.alloc (nbx n b cap) = U := ⟨_, rfl⟩
  rw [hU] at hb0 g0
  replace hU : w.alloc (.cells #[.int .i64 n.k, sk n.t, .int .i64 n.n, .slice b n.kids.length cap] 24) = U := hU
  have hFt := fits_any S n b cap U (hN.below hb0)
  rw [hf] at hFt
  have hWn := fun u (hb : Below w.heap.size w u) => newWords_any u (hsp.below hb)
  have hAu := ask_u n
  obtain ⟨c0, c1, c2, c3, f0, f1, f2, f3⟩ := in4 g0
  have hqu : Hid (¬ isK 1 n) := hu
  clear hu hf
  go_enter Tryz.func10, Tryz.ntmps10
  go_wp2_with (first | (go_at_call 14; refine hFt.mono ?_; rintro e w1 ⟨rfl, hb1⟩; have hbw1 := ext_trans hb0 hb1; have g1 := block_below hb1 g0; obtain ⟨c0, c1, c2, c3, f0, f1, f2, f3⟩ := in4 g1) | (go_at_call 18; refine (hWn _ hbw1).mono ?_; rintro e w2 ⟨m1, m2, m3, m4, m5, rfl, hWd, hb2⟩; have hbw2 := ext_trans hbw1 hb2; have g2 := block_below hb2 g1; refine Hid.out ?_))
  obtain ⟨m, hme⟩ : ∃ m : Wm, m = ⟨m1, m2, m3, m4, m5⟩ := ⟨_, rfl⟩
  have hWE2 : WE m w2 := by rw [hme]; exact ⟨⟨_, hWd⟩, hE.on hbw2⟩
  have hbA := ext_alloc (Below.refl w2.heap.size w2) (wrb m none 0 0)
  have gA := block_below hbA g2
  obtain ⟨B, hB⟩ : ∃ B, w2.heap.size = B := ⟨_, rfl⟩
  obtain ⟨A, hA⟩ : ∃ A, w2.alloc (wrb m none 0 0) = A := ⟨_, rfl⟩
  rw [hA] at hbA gA
  have hN2 := hN.below hbw2
  have hu1 := Ans.not (hAu m S b cap A (hWE2.on hbA) hok (hN2.below hbA)) hqu.out
  rw [show m.v = .agg #[.map (some m1), .map (some m2), .map (some m3), .map (some m4), .map (some m5)] by rw [hme]] at hu1
  replace hA : w2.alloc (.cells #[.map (some m1), .map (some m2), .map (some m3), .map (some m4), .map (some m5), .slice none 0 0] 54) = A := by rw [← hA, hme]
  clear hFt hWn hAu hWd
  replace hA : Hid _ := hA
  replace hB : Hid _ := hB
  obtain ⟨z0, z1, z2, z3, z4, z5, z6, z7⟩ := in4a g2
  refine Lib.hid ?_
  go_wp2_with (go_at_call 19; refine Hid.out ?_)
  have hA' := hA.out
  have hB' := hB.out
  rw [hA', hB']
  clear hA hB hA' hB'
  refine Lib.hid ?_
  refine hu1.mono ?_
  rintro e w3 ⟨rfl, hb3⟩
  have hb3w := ext_trans (ext_trans hbw2 hbA) hb3
  go_wp2
  go_ret2
  exact ⟨rfl, hb3w⟩
end Go.Proofs.YtbdkiimggggndaaGreatDoor
namespace Go.Proofs.YtbdkiimggggndaaGreatDoor
open Go.ChangeShapes Go.WideShapes Go.ChangeAt Go.WideMaps Go.WideElems Go.RowKit Go.Joins Go.Deep
open Go

/-- Its texts can be held, its numbers are i64. -/
def okT : Nd → Prop
  | ⟨_, t, n, kids⟩ => t.length ≤ 1000000000000000000 ∧ -9223372036854775808 ≤ n ∧ n ≤ 9223372036854775807 ∧ go kids
where go : List Nd → Prop
  | [] => True
  | x :: l => okT x ∧ go l
theorem okT_go : ∀ (l : List Nd), okT.go l ↔ ∀ x ∈ l, okT x
  | [] => by simp [okT.go]
  | x :: l => by rw [okT.go, okT_go l]; simp
theorem mlen2 : ∀ (l : List Nd), l.length ≤ manyN.go l ∧ ∀ x ∈ l, manyN x ≤ manyN.go l
  | [] => by simp [manyN.go]
  | x :: l => by
    have ih := mlen2 l
    have h1 : 1 ≤ manyN x := by obtain ⟨k, t, n, kids⟩ := x; rw [manyN]; omega
    rw [manyN.go]
    refine ⟨by simp; omega, fun y hy => ?_⟩
    rcases List.mem_cons.1 hy with rfl | hy
    · omega
    · have := ih.2 y hy; omega
theorem okN_okT (n : Nd) : okT n → manyN n ≤ 600 → okN n := by
  refine nd_ind (m := fun n => okT n → manyN n ≤ 600 → okN n) (fun k t n kids ih h hm => ?_) n
  rw [okT, okT_go] at h
  rw [manyN] at hm
  have h2 := mlen2 kids
  rw [okN, okN_go]
  exact ⟨h.1, h.2.1, h.2.2.1, by omega, fun x hx => ih x hx (h.2.2.2 x hx) (by have := h2.2 x hx; omega)⟩

theorem cells24 : Tryz.prog.cellsOf 24 = 4 := by kernel_rfl
theorem cells2 : Tryz.prog.cellsOf 2 = 1 := by kernel_rfl
theorem cells3 : Tryz.prog.cellsOf 3 = 1 := by kernel_rfl
theorem cells9 : Tryz.prog.cellsOf 9 = 1 := by kernel_rfl
theorem cells22 : Tryz.prog.cellsOf 22 = 1 := by kernel_rfl
theorem wf64 {n : Int} (h : (Lit.int .i64 n).wf = true) : -9223372036854775808 ≤ n ∧ n ≤ 9223372036854775807 := by
  have h' : (decide ((-9223372036854775808 : Int) ≤ n) && decide (n ≤ 9223372036854775807)) = true := h
  simpa using h'

theorem addr_of {W : World} {a : Addr} {v : Value} (h : W.cell? a = some v) : a = ⟨a.block, a.off, none⟩ := by
  obtain ⟨b, o, s⟩ := a
  cases s with
  | none => rfl
  | some s =>
    unfold World.cell? at h
    split at h <;> simp at h
theorem weights_all {H : Type} (P : Program) (e : TypeId) : ∀ (l : List (DataW H)) (d : DataW H), d ∈ l → ∀ x ∈ d.weights P e, x ∈ DataW.weightsAll P e l
  | [], _, h, _, _ => by cases h
  | y :: l, d, h, x, hx => by
    rw [DataW.weightsAll]
    rcases List.mem_cons.1 h with rfl | h
    · exact List.mem_append_left _ hx
    · exact List.mem_append_right _ (weights_all P e l d h x hx)

set_option maxRecDepth 20000 in
theorem open_cells {H : Type} {enc : TypeId × Value → H} {W : World} : ∀ (k : Nat) {fuel : Nat} {cs : List Value} {y : DataW H × List MemPlace}, SizeOf.sizeOf y.1 ≤ k → DataW.trod enc Tryz.prog W 0 (fun _ => true) true fuel 24 cs = some y →
    ∃ n b cap, cs = [.int .i64 n.k, sk n.t, .int .i64 n.n, .slice b n.kids.length cap] ∧ NdV (fun _ => True) W n (ndv n b cap) ∧ ((∀ x ∈ y.1.weights Tryz.prog 24, x ≤ reachBytes) → okT n) := by
  intro k
  induction k with
  | zero =>
    intro fuel cs y hy h
    obtain ⟨y0, y1, y2, y3, m, rfl, _⟩ := trod_struct4 Tryz.underlying24 h
    simp at hy
  | succ k ih =>
    intro fuel cs y hy h
    obtain ⟨y0, y1, y2, y3, m, rfl, hlen, g0, g1, g2, g3⟩ := trod_struct4 Tryz.underlying24 h
    rw [cells24] at hlen
    match cs, hlen with
    | [c0, c1, c2, c3], _ =>
      simp only [cells3, cells2, cells9, cells22] at g0 g1 g2 g3
      obtain ⟨kk, e0, _, _⟩ := DataW.trod_int Tryz.underlying3 g0
      obtain ⟨s, e1, q1, ws⟩ := DataW.trod_string Tryz.underlying9 g1
      obtain ⟨nn, e2, q2, wn⟩ := DataW.trod_int Tryz.underlying2 g2
      obtain ⟨t, rfl⟩ : ∃ t : List UInt8, s = ⟨t.toArray⟩ := ⟨s.data.toList, by simp⟩
      simp at e0 e1 e2
      subst e0 e1 e2
      have hw : (∀ x ∈ (DataW.agg [y0.1, y1.1, y2.1, y3.1]).weights Tryz.prog 24, x ≤ reachBytes) → t.length ≤ 1000000000000000000 ∧ ∀ x ∈ y3.1.weights Tryz.prog 22, x ≤ reachBytes := fun hx => by
        rw [DataW.weights, Tryz.underlying24] at hx
        simp only [DataW.weightsEach, List.map, List.append_nil] at hx
        refine ⟨?_, fun x h => hx x (by simp [h])⟩
        have := hx t.length (by rw [q1]; simp [DataW.weights])
        simp [reachBytes] at this
        omega
      rcases open_slice Tryz.underlying22 g3 with ⟨e, _⟩ | ⟨a, len, cap, m', n', D, Pl, e, _, hl, hm, hmm, hx, hel⟩
      · simp at e
        subst e
        refine ⟨⟨kk, t, nn, []⟩, none, 0, rfl, ndV_leaf _ W kk t nn, fun hx => ?_⟩
        rw [okT]
        exact ⟨(hw hx).1, (wf64 wn).1, (wf64 wn).2, trivial⟩
      simp at e
      subst e
      have hmc : m' = cap := hmm
      clear hmm
      haveI : Inhabited Nd := ⟨⟨0, [], 0, []⟩⟩
      rw [cells24] at hel
      obtain ⟨f, hf⟩ := choose_lt (n := len) (p := fun i (x : Nd) => (∃ g off, a = ⟨g, off, none⟩ ∧ NdAt (fun _ => True) W x (fun j => W.cell? ⟨g, off + i * 4 + j, none⟩)) ∧ ((∀ z ∈ (D i).weights Tryz.prog 24, z ≤ reachBytes) → okT x)) (fun i hi => by
        have h0 : ∃ b off, a = ⟨b, off, none⟩ := by
          obtain ⟨cs', h1, _⟩ := hel 0 (by omega)
          obtain ⟨_, hlen, hc⟩ := World.cells?_some h1
          have := hc 0 (by omega)
          match cs', hlen with
          | [c0, c1, c2, c3], _ =>
            simp [Addr.add] at this
            exact ⟨_, _, addr_of this⟩
        obtain ⟨b, off, rfl⟩ := h0
        obtain ⟨cs', h1, h2⟩ := hel i (by omega)
        obtain ⟨_, hlen, hc⟩ := World.cells?_some h1
        have hsz : SizeOf.sizeOf (D i) ≤ k := by
          have hmem : D i ∈ (List.range len).map D := List.mem_map.2 ⟨i, by simpa using hi, rfl⟩
          have := List.sizeOf_lt_of_mem hmem
          rw [hx] at hy
          simp at hy
          omega
        obtain ⟨nd, b', cap', rfl, hN, hT⟩ := ih hsz h2
        refine ⟨nd, ⟨b, off, rfl, ?_⟩, hT⟩
        obtain ⟨x0, x1, x2, x3, e, hN⟩ := hN
        refine NdAt.on (fun g _ _ => ⟨trivial, rfl⟩) nd _ _ (fun j v hj => ?_) hN
        have ha : ∀ j, (Addr.add (Addr.add ⟨b, off, none⟩ (i * 4)) j) = ⟨b, off + i * 4 + j, none⟩ := fun j => by
          simp only [Addr.add]
          split <;> split <;> simp_all <;> omega
        have d0 := hc 0 (by omega)
        have d1 := hc 1 (by omega)
        have d2 := hc 2 (by omega)
        have d3 := hc 3 (by omega)
        rw [ha] at d0 d1 d2 d3
        simp at e d0 d1 d2 d3
        obtain ⟨rfl, rfl, rfl, rfl⟩ := e
        match j, hj with
        | 0, hj => simp at hj; rw [← hj]; exact d0
        | 1, hj => simp at hj; rw [← hj]; exact d1
        | 2, hj => simp at hj; rw [← hj]; exact d2
        | 3, hj => simp at hj; rw [← hj]; exact d3
        | j + 4, hj => simp at hj)
      have hlk : ((List.range len).map f).length = len := by simp
      refine ⟨⟨kk, t, nn, (List.range len).map f⟩, some a, cap, by simp, ?_, fun hX => ?_⟩
      · refine ndV_mk (kids := (List.range len).map f) (by rw [hlk]; exact hl) ?_
        rcases Nat.eq_zero_or_pos len with h0 | h0
        · left; subst h0; rfl
        right
        obtain ⟨⟨g, off, rfl, _⟩, _⟩ := hf 0 h0
        refine ⟨g, off, rfl, trivial, fun j x hj => ?_⟩
        simp only [List.getElem?_map, Option.map_eq_some_iff] at hj
        obtain ⟨i, hi, rfl⟩ := hj
        obtain ⟨hi1, hi2⟩ := List.getElem?_eq_some_iff.1 hi
        simp at hi1 hi2
        subst hi2
        obtain ⟨⟨g', off', e, ht⟩, _⟩ := hf j hi1
        cases e
        exact ht
      · have hY := hw hX
        rw [hx] at hY
        rw [okT, okT_go]
        refine ⟨hY.1, (wf64 wn).1, (wf64 wn).2, fun x hx' => ?_⟩
        obtain ⟨i, hi, rfl⟩ := List.mem_map.1 hx'
        have hi' : i < len := by simpa using hi
        refine (hf i hi').2 fun z hz => hY.2 z ?_
        rw [DataW.weights, Tryz.underlying22]
        exact List.mem_cons_of_mem _ (List.mem_append_left _ (weights_all _ _ _ _ (List.mem_map.2 ⟨i, hi, rfl⟩) z hz))


set_option maxRecDepth 20000 in
theorem open_node {H : Type} {enc : TypeId × Value → H} {W : World} {base : Nat} {v : Value} {d : DataW H} {p : List MemPlace} (hv : Value.okWide Tryz.prog W .any base 24 v)
    (h : DataW.Trod enc Tryz.prog W 0 (fun _ => true) true 24 v d p) (hs : ∀ x ∈ d.weights Tryz.prog 24, x ≤ reachBytes) : ∃ n b cap, v = ndv n b cap ∧ NdV (fun _ => True) W n (ndv n b cap) ∧ okT n := by
  obtain ⟨cs, rfl, hsz⟩ := okWide_struct Tryz.underlying24 hv
  obtain ⟨fuel, hf⟩ := h
  obtain ⟨n, b, cap, e, hN, hT⟩ := open_cells (SizeOf.sizeOf d) (y := (d, p)) (Nat.le_refl _) hf
  refine ⟨n, b, cap, ?_, hN, hT hs⟩
  have e' : cs.toList = [.int .i64 n.k, sk n.t, .int .i64 n.n, .slice b n.kids.length cap] := by simpa [Value.cells] using e
  rw [ndv, ← e']
end Go.Proofs.YtbdkiimggggndaaGreatDoor
