/- The program's reader: if. The program's reader: blocks. The program's reader: a place, or a call. The program's reader: a statement. -/
import Derived.Test.YtnnppenlfocgiaaGreatDoorK28
namespace Go.Proofs.YtnnppenlfocgiaaGreatDoor
open Go.RowKit
open Go

theorem res138 {tm : Array Value} {W : World} {B : Nat} {a b c d : Value} (h : tm[2]?.getD undef = .pointer (some ⟨B, 0, none⟩)) (hx : W.heap[B]? = some (.cells #[a, b, c, d] 24)) : (results Tryz.f117 tm).run Tryz.prog W = .ok (.agg #[a, b, c, d]) W := by
  obtain ⟨c0, c1, c2, c3, _, _, _, _⟩ := in4 hx
  simp [results, Tryz.results117, go_sem, h, c0, c1, c2, c3]
set_option maxRecDepth 20000 in
set_option maxHeartbeats 4000000 in
theorem choice_of (f : Nat) (hE : ExprC f) (hB : BlkC f) (r : PRes) (B : Nat) (ts : List Tok) (i : Nat) (w : World) (hC : Ctx w B ts i) (hP : (P f 0 nil0 0 (rest ts i)).on (fun x l => need W.then_ l fun l => (P f 7 (nd 4 []) 0 l).on fun b l => if tx l = W.else_ then (P f 7 (nd 4 []) 0 l.tail).on fun c l => need W.end_ l fun l => .ok (nd 8 [x, b, c]) l else need W.end_ l fun l => .ok (nd 8 [x, b]) l) = some r) : Calls Tryz.prog 117 #[.pointer (some ⟨B, 0, none⟩)] w (PAns no w B ts r) := by
  obtain ⟨i0, hi0, hz0, hz1, hz2⟩ := info_parts info24
  have hBw := hC.R.lt
  have hb0 : Below w.heap.size w (w.alloc zbx) := ext_alloc (Below.refl _ _) _
  have h2 := alloc_new w zbx
  have hk0 : Keeps (fun k => k = B) w (w.alloc zbx) := Keeps.of_below hb0
  have hc1 := callU hP (fun r0 h => hE r0 B ts _ _ (hC.below hb0) h)
  clear hP
  go_enter Tryz.func117, Tryz.ntmps117
  go_wp2_with (go_at_call 130; refine hc1.mono ?_; rintro e w3 (⟨j, rfl, hle, rfl, hk3⟩ | ⟨n1, j1, b1, cap1, hP3, rfl, hN1, hR3, hk3⟩); (exact ⟨rfl, close_pan rfl hle (hk0.trans hk3)⟩); (try dsimp only at hP3); have hk3' := hk0.trans hk3; have g3 := hk3.box h2 (by omega); refine Hid.out ?_)
  have hzw := block_lt g3
  have hb3 : Below w3.heap.size w3 (w3.alloc (nbx n1 b1 cap1)) := ext_alloc (Below.refl _ _) _
  have q4 := alloc_new w3 (nbx n1 b1 cap1)
  have g3' := block_below hb3 g3
  have hN1' : NdV (fun q => w.heap.size < q) (w3.alloc (nbx n1 b1 cap1)) n1 (ndv n1 b1 cap1) := (hN1.weak (fun q hq _ => by simp at hq; omega)).below hb3
  have hk4 := hk3'.trans (Keeps.of_below hb3)
  have hW4 := (hC.on hR3).wantsU pl_then hP3 _ hb3
  rw [World.size_alloc] at hW4
  obtain ⟨t3, ht3⟩ : ∃ t3, w3.heap.size = t3 := ⟨_, rfl⟩
  clear hc1 hP3 h2 hk3 hk3' hN1
  rw [ht3] at hW4 q4 hzw
  refine Lib.hid ?_
  go_wp2_with (go_at_call 82; refine hW4.mono ?_; rintro e w5 (⟨rfl, hle, rfl, hk5⟩ | ⟨hP5, rfl, hR5, hk5⟩); (exact ⟨rfl, close_pan rfl hle (hk4.trans hk5)⟩); (try dsimp only at hP5); have hk5' := hk4.trans hk5; have p3 := hk5.box q4 (by omega); have p2 := hk5.box g3' (by omega); have hN5 := hN1'.keep hk5 (fun q hq _ => by omega))
  have hz5 := block_lt p3
  have hC5 := hC.on hR5
  have hc6 := fun u (h : Ctx u B ts (j1 + 1)) => callU hP5 (fun r0 h0 => hB r0 B ts (j1 + 1) u h h0)
  clear ht3 hW4 hP5 hk5 hk4 q4 g3' hN1' g3 hR3 hb3
  go_cut [4] (fun s4 wx => ∃ t4 n2 j2, s4 = .pointer (some ⟨t4, 0, none⟩) ∧ PB w wx B ts 8 n1 n2 t4 j2 ∧ (if tx (rest ts j2) = W.else_ then (P f 7 (nd 4 []) 0 (rest ts j2).tail).on fun c l => need W.end_ l fun l => .ok (nd 8 [n1, n2, c]) l else need W.end_ (rest ts j2) fun l => .ok (nd 8 [n1, n2]) l) = some r)
  case first =>
    obtain ⟨c0, c1, c2, c3, f0, f1, f2, f3⟩ := in4 p3
    obtain ⟨x0, x1, x2, x3, y0, y1, y2, y3⟩ := in4a p3
    go_region_with (first
      | (go_at_call 86; refine (hc6 _ (hC5.below ((Below.refl _ _).drew))).mono ?_; rintro e w6 (⟨j, rfl, hle, rfl, hk6⟩ | ⟨n2, j2, b2, cap2, hP6, rfl, hN6, hR6, hk6⟩); (exact ⟨rfl, close_pan rfl hle ((hk5'.drew).trans hk6)⟩); have g3 := hk6.box p3 (by omega); have g2 := hk6.box p2 (by omega); obtain ⟨c0, c1, c2, c3, f0, f1, f2, f3⟩ := in4 g3; obtain ⟨x0, x1, x2, x3, y0, y1, y2, y3⟩ := in4a g3; have hNx : NdV (fun q => w.heap.size < q) w6 n1 (ndv n1 b1 cap1) := (hN5.below ((Below.refl _ _).drew)).keep hk6 (fun q hq _ => by omega); have hNy : NdV (fun q => w.heap.size < q) w6 n2 (ndv n2 b2 cap2) := hN6.weak (fun q hq _ => by simp at hq; omega); have hk6' := (hk5'.drew).trans hk6)
      | (go_at_call 86; refine (hc6 _ (hC5.below ((ext_alloc (Below.refl _ _) zbx).drew))).mono ?_; rintro e w6 (⟨j, rfl, hle, rfl, hk6⟩ | ⟨n2, j2, b2, cap2, hP6, rfl, hN6, hR6, hk6⟩); (exact ⟨rfl, close_pan rfl hle (((hk5'.alloc zbx).drew).trans hk6)⟩); have g3 := hk6.box (W := (w5.alloc zbx).drew) (block_alloc zbx p3) (by omega); have g2 := hk6.box (W := (w5.alloc zbx).drew) (block_alloc zbx p2) (by omega); have g4 := hk6.box (W := (w5.alloc zbx).drew) (alloc_new w5 zbx) (by omega); obtain ⟨c0, c1, c2, c3, f0, f1, f2, f3⟩ := in4 g3; obtain ⟨x0, x1, x2, x3, y0, y1, y2, y3⟩ := in4a g3; obtain ⟨u0, u1, u2, u3, v0, v1, v2, v3⟩ := in4a g4; have hNx : NdV (fun q => w.heap.size < q ∧ q ≠ w5.heap.size) w6 n1 (ndv n1 b1 cap1) := ((hN5.weak (S' := fun q => w.heap.size < q ∧ q ≠ w5.heap.size) (fun q hq hlt => ⟨hq, by omega⟩)).below ((ext_alloc (Below.refl _ _) zbx).drew)).keep hk6 (fun q hq _ => by omega); have hNy : NdV (fun q => w.heap.size < q ∧ q ≠ w5.heap.size) w6 n2 (ndv n2 b2 cap2) := hN6.weak (fun q hq _ => by simp at hq; omega); have hk6' := ((hk5'.alloc zbx).drew).trans hk6))
    all_goals
      go_wp2
      go_meet
      case rel => first
        | exact ⟨_, n2, j2, rfl, pb_A 8 hNx hNy g2 hR6 hk6', hP6⟩
        | exact ⟨_, n2, j2, rfl, pb_C 8 hNx hNy g2 hR6 hk6', hP6⟩
        | exact ⟨_, n2, j2, rfl, pb_B 8 hNx hNy g2 g4 (by omega) hBw hR6 hk6', hP6⟩
  case rest =>
    obtain ⟨t4, n2, j2, rfl, hPB, hr⟩ := hcut
    obtain ⟨b4, cap4, q4, hRow4, hown4⟩ := hPB.box
    have q2 := hPB.ans
    have hz4 := hPB.lt
    have hCc := hC.on hPB.R
    clear hc6 p3 p2 hN5 hk5'
    by_cases hel : tx (rest ts j2) = W.else_
    · rw [if_pos hel, rest_tail] at hr
      have hT := hCc.takes_yes pl_else hel wc (Below.refl _ _)
      have hc7 := fun u (h : Ctx u B ts (j2 + 1)) => callU hr (fun r0 h0 => hB r0 B ts (j2 + 1) u h h0)
      clear hr
      go_wp2_with (go_at_call 85; refine hT.mono ?_; rintro e w7 ⟨rfl, hR7, hk7⟩)
      have p4 := hk7.box q4 (by omega)
      have p2 := hk7.box q2 (by omega)
      have hRow7 := hRow4.keep hk7 (fun q hq _ => by omega)
      have hC7 := hC.on hR7
      have hkw7 := hPB.K.trans hk7
      have hz7 := block_lt p4
      obtain ⟨_, _, _, hform⟩ := hRow7.form
      replace hform : Hid _ := hform
      replace hown4 : Hid _ := hown4
      clear hT q4 q2 hRow4 hk7
      go_cut [4] (fun s4 wx => s4 = .pointer (some ⟨t4, 0, none⟩) ∧ ∃ n3 j3 b3 cap3, wx.heap[t4]? = some (nbx (nd 8 [n1, n2, n3]) b3 cap3) ∧ NdV (fun q => w.heap.size < q ∧ q ≠ t4) wx (nd 8 [n1, n2, n3]) (ndv (nd 8 [n1, n2, n3]) b3 cap3) ∧ wx.heap[w.heap.size]? = some zbx ∧ Rd wx B ts j3 ∧ Keeps (fun k => k = B) w wx ∧ need W.end_ (rest ts j3) (fun l => .ok (nd 8 [n1, n2, n3]) l) = some r)
      case first =>
        obtain ⟨c0, c1, c2, c3, f0, f1, f2, f3⟩ := in4 p4
        go_region_law (first
          | (refine step_append_lies _ (by rfl) _ _ _ (by rfl) 0 24 i0 _ 4 56 Tryz.underlying22 hi0 hz0 hz1 hz2 rfl (by omega) (.slice b4 2 cap4) 2 _ (by rfl) ho ⟨w8.heap.size, 0, none⟩ 1 1 _ (by rfl) (by rfl) (cells_of n3 b3 cap3 (alloc_new w8 (nbx n3 b3 cap3))) (by simp [Value.oneCell']) (by omega) (by decide) (by decide) (Nat.zero_le _) _ rfl ?_; intro g5 cap5 w9 hown5 hgrow hat hlt5; have p4w := (hgrow.block _ (block_lt g4) hne4).trans g4; obtain ⟨c0, c1, c2, c3, f0, f1, f2, f3⟩ := in4 p4w)
          | (go_simp; go_at_call 86; refine (hc7 _ (hC7.below ((Below.refl _ _).drew))).mono ?_; rintro e w8 (⟨j, rfl, hle, rfl, hk8⟩ | ⟨n3, j3, b3, cap3, hP8, rfl, hN8, hR8, hk8'⟩); (exact ⟨rfl, close_pan rfl hle ((hkw7.drew).trans hk8)⟩); have hk8 := ((Keeps.refl (fun k => k = B) w7).drew).trans hk8'; clear hk8'; have pw4 := hk8.box p4 (by omega); have g4 := block_alloc (nbx n3 b3 cap3) pw4; have g2 := block_alloc (nbx n3 b3 cap3) (hk8.box p2 (by omega)); obtain ⟨c0, c1, c2, c3, f0, f1, f2, f3⟩ := in4 pw4; obtain ⟨d0, d1, d2, d3, e0, e1, e2, e3⟩ := in4a pw4; obtain ⟨xs, ho, hs, hn⟩ := ((hRow7.keep hk8 (fun q hq _ => by omega)).below (ext_alloc (Below.refl _ _) (nbx n3 b3 cap3))).own; have hne4 : some t4 ≠ Value.ownBlock (.slice b4 2 cap4) := fun e => (hs _ e.symm).2 rfl))
        all_goals
          go_wp2
          go_meet
          case rel =>
            have hb8a := ext_alloc (Below.refl w8.heap.size w8) (nbx n3 b3 cap3)
            have hz8 := hk8.size
            have hy : NdV (fun q => (w.heap.size < q ∧ q ≠ t4) ∧ some q ≠ Value.ownBlock (.slice b4 2 cap4)) (w8.alloc (nbx n3 b3 cap3)) n3 (ndv n3 b3 cap3) := (hN8.weak (fun q hq _ => by simp at hq; exact ⟨⟨by omega, by omega⟩, fun e => by have := (hform.out q e.symm).2; omega⟩)).below hb8a
            obtain ⟨hRow9, q4, hk9, _⟩ := kids_step (ks := [n1, n2]) (lo := w.heap.size + 1) ho hs hn hy (fun q hq => hq.2) (fun q hq => by simp at hq; exact ⟨by omega, by omega⟩) (fun q e => hown4.out q e) (by simp; omega) g4 hown5 hgrow hat rfl
            exact ⟨rfl, n3, j3, _, _, q4, hRow9.node 8 [] 0, hk9.box g2 (fun e => by rcases e with e | e; omega; have := hown4.out _ e.symm; omega), (hR8.below hb8a).keep hk9 (fun q hq e => by rcases e with e | e; omega; have := hown4.out q e.symm; omega), ((hkw7.trans hk8).trans (Keeps.of_below hb8a)).then hk9 (fun q hq e => by rcases e with e | e; omega; have := hown4.out q e.symm; omega), hP8⟩
      case rest =>
        obtain ⟨rfl, n3, j3, b3, cap3, q4, hNN, q2, hR9, hk9, hr⟩ := hcut
        have hW9 := (hC.on hR9).wantsU pl_end hr _ (Below.refl _ _)
        clear hr hc7
        go_wp2_with (go_at_call 82; refine hW9.mono ?_; rintro e w8 (⟨rfl, hle, rfl, hk8⟩ | ⟨hP8, rfl, hR8, hk8⟩); (exact ⟨rfl, close_pan rfl hle (hk9.trans hk8)⟩); have g4 := hk8.box q4 (by omega); have g2 := hk8.box q2 (by omega); obtain ⟨c0, c1, c2, c3, f0, f1, f2, f3⟩ := in4 g4; obtain ⟨d0, d1, d2, d3, e0, e1, e2, e3⟩ := in4 g2)
        refine bodyPost_ret (res138 rfl (put4_same _ _ _ _ g2)) rfl ?_
        obtain rfl := Option.some.inj hP8
        exact close_ret (N := nd 8 [n1, n2, n3]) rfl ((hNN.keep hk8 (fun q hq _ => by omega)).weak (fun q hq _ => ⟨.inr (by omega), by omega⟩)) hR8 (hk9.trans hk8) (Nat.le_refl _) hBw
    · rw [if_neg hel] at hr
      have hT := hCc.takes_no pl_else hel wc (Below.refl _ _)
      have hNN := hRow4.node 8 [] 0
      have hW7 := fun u hb => hCc.wantsU pl_end hr u hb
      clear hr
      go_wp2_with (first
        | (go_at_call 85; refine hT.mono ?_; rintro e w7 ⟨rfl, hb7⟩)
        | (go_at_call 82; refine (hW7 _ hb7).mono ?_; rintro e w8 (⟨rfl, hle, rfl, hk8⟩ | ⟨hP8, rfl, hR8, hk8⟩); (exact ⟨rfl, close_pan rfl hle ((hPB.K.trans (Keeps.of_below hb7)).trans hk8)⟩); have g4 := hk8.box (block_below hb7 q4) (by omega); have g2 := hk8.box (block_below hb7 q2) (by omega); obtain ⟨c0, c1, c2, c3, f0, f1, f2, f3⟩ := in4 g4; obtain ⟨d0, d1, d2, d3, e0, e1, e2, e3⟩ := in4 g2))
      refine bodyPost_ret (res138 rfl (put4_same _ _ _ _ g2)) rfl ?_
      obtain rfl := Option.some.inj hP8
      exact close_ret (N := nd 8 [n1, n2]) rfl (((hNN.below hb7).keep hk8 (fun q hq _ => by omega)).weak (fun q hq _ => ⟨.inr (by omega), by omega⟩)) hR8 ((hPB.K.trans (Keeps.of_below hb7)).trans hk8) (Nat.le_refl _) hBw
end Go.Proofs.YtnnppenlfocgiaaGreatDoor
namespace Go.Proofs.YtnnppenlfocgiaaGreatDoor
open Go.RowKit
open Go

def StatC (f : Nat) : Prop := ∀ (r : PRes) (B : Nat) (ts : List Tok) (i : Nat) (w : World), Ctx w B ts i → P f 8 nil0 0 (rest ts i) = some r → Calls Tryz.prog 99 #[.pointer (some ⟨B, 0, none⟩)] w (PAns no w B ts r)
/-- Between two of a row. -/
def BlkI (f : Nat) (w : World) (B : Nat) (ts : List Tok) (r : PRes) (k : Nat) (wr : World) : Prop :=
  ∃ (ks : List Nd) (j : Nat) (b : Option Addr) (cap : Nat), wr.heap[w.heap.size + 1]? = some (nbx (nd 4 ks) b cap) ∧ wr.heap[w.heap.size]? = some zbx ∧
    Row (fun g => w.heap.size ≤ g ∧ g ≠ w.heap.size ∧ g ≠ w.heap.size + 1) wr (.slice b ks.length cap) ks ∧ (∀ q, Value.ownBlock (.slice b ks.length cap) = some q → w.heap.size ≤ q) ∧ Rd wr B ts j ∧ Keeps (fun k => k = B) w wr ∧ ks.length + k ≤ f ∧ P k 7 (nd 4 ks) 0 (rest ts j) = some r
theorem res97 {tm : Array Value} {W : World} {B : Nat} {a b c d : Value} (h : tm[2]?.getD undef = .pointer (some ⟨B, 0, none⟩)) (hx : W.heap[B]? = some (.cells #[a, b, c, d] 24)) : (results Tryz.f86 tm).run Tryz.prog W = .ok (.agg #[a, b, c, d]) W := by
  obtain ⟨c0, c1, c2, c3, _, _, _, _⟩ := in4 hx
  simp [results, Tryz.results86, go_sem, h, c0, c1, c2, c3]
set_option maxRecDepth 20000 in
set_option maxHeartbeats 4000000 in
theorem block_of (f : Nat) (hf : f ≤ 100000) (hE : ∀ g, g < f → StatC g) (r : PRes) (B : Nat) (ts : List Tok) (i : Nat) (w : World) (hC : Ctx w B ts i) (hP : P f 7 (nd 4 []) 0 (rest ts i) = some r) : Calls Tryz.prog 86 #[.pointer (some ⟨B, 0, none⟩)] w (PAns no w B ts r) := by
  obtain ⟨i0, hi0, hz0, hz1, hz2⟩ := info_parts info24
  obtain ⟨h4, h3⟩ := new2 w zbx (nbx (nd 4 []) none 0)
  have hBw := hC.R.lt
  have hb0 := below2 w zbx (nbx (nd 4 []) none 0)
  have hI : BlkI f w B ts r f ((w.alloc zbx).alloc (nbx (nd 4 []) none 0)) := ⟨[], i, none, 0, h3, h4, Row.nil _ _, fun q e => by simp [Value.ownBlock] at e, hC.R.below hb0, Keeps.of_below hb0, by simp, hP⟩
  clear hP h4 h3 hb0
  go_enter Tryz.func86, Tryz.ntmps86
  go_wp2
  go_loopg [8] f (fun k _ wr => BlkI f w B ts r k wr)
  case atStart => exact hI
  case round =>
    clear hI
    obtain ⟨ks, j, b', cap', p3, p4, hRow, hown, hR, hk, hgf, hr⟩ := hrel
    have hCr := hC.on hR
    have hz4 := block_lt p3
    cases gk with
    | zero => cases hr
    | succ g =>
      rw [P] at hr
      have hSee := hCr.sees2 pl_end pl_else wr (Below.refl _ _)
      by_cases hy : tx (rest ts j) = W.end_ ∨ tx (rest ts j) = W.else_
      · -- the end
        rw [if_pos hy] at hr
        replace hr : Hid _ := hr
        have hN := hRow.node 4 [] 0
        rw [decide_eq_true hy] at hSee
        go_wp2_with (go_at_call 84; refine hSee.mono ?_; rintro e w4 ⟨rfl, hb4⟩; have q3 := block_below hb4 p3; have q4 := block_below hb4 p4; obtain ⟨c0, c1, c2, c3, f0, f1, f2, f3⟩ := in4 q3; obtain ⟨d0, d1, d2, d3, e0, e1, e2, e3⟩ := in4 q4)
        refine bodyPost_ret (res97 rfl (put4_same _ _ _ _ q4)) rfl ?_
        obtain rfl := Option.some.inj hr.out
        exact close_ret (N := nd 4 ks) rfl ((hN.below hb4).weak (fun g hg _ => ⟨.inr hg.1, hg.2.1⟩)) (hR.below hb4) (hk.trans (Keeps.of_below hb4)) (Nat.le_refl _) hBw
      · rw [if_neg hy] at hr
        have hc1 := fun u (h : Ctx u B ts j) => callU hr (fun r0 h0 => hE g (by omega) r0 B ts j u h h0)
        have hn1 : ks.length + 1 ≤ maxLen := by unfold maxLen; omega
        have hb1 : (ks.length + 1) * 56 ≤ 140737488355328 := by omega
        clear hr hE
        rw [decide_eq_false hy] at hSee
        go_wp2_with (go_at_call 84; refine hSee.mono ?_; rintro e w4 ⟨rfl, hb4⟩)
        have p3' := block_below hb4 p3
        have p4' := block_below hb4 p4
        have hRow4 := hRow.below hb4
        have hC4 := hCr.below hb4
        have hk4 := hk.trans (Keeps.of_below hb4)
        have hz5 := block_lt p3'
        obtain ⟨_, _, _, hform⟩ := hRow4.form
        replace hform : Hid _ := hform
        replace hown : Hid _ := hown
        clear hRow p3 p4 hR hk
        obtain ⟨c0, c1, c2, c3, f0, f1, f2, f3⟩ := in4 p3'
        go_region_law (first
          | (refine step_append_lies _ (by rfl) _ _ _ (by rfl) 0 24 i0 _ 4 56 Tryz.underlying22 hi0 hz0 hz1 hz2 rfl (by omega) (.slice b' ks.length cap') ks.length _ (by rfl) ho ⟨w2.heap.size, 0, none⟩ 1 1 _ (by rfl) (by rfl) (cells_of n1 b1 cap1 (alloc_new w2 (nbx n1 b1 cap1))) (by simp [Value.oneCell']) (by omega) hn1 hb1 (Nat.zero_le _) _ rfl ?_; intro g3 cap3 w3 hown3 hgrow hat hlt3; have p3w := (hgrow.block _ (block_lt q3) hne3).trans q3; obtain ⟨c0, c1, c2, c3, f0, f1, f2, f3⟩ := in4 p3w)
          | (go_simp; go_at_call 99; refine (hc1 _ (hC4.below ((Below.refl _ _).drew))).mono ?_; rintro e w2 (⟨j2, rfl, hle, rfl, hk2⟩ | ⟨n1, j2, b1, cap1, hP2, rfl, hN1, hR2, hk2'⟩); (exact ⟨rfl, close_pan rfl hle ((hk4.drew).trans hk2)⟩); have hk2 := ((Keeps.refl (fun k => k = B) w4).drew).trans hk2'; clear hk2'; have pw3 := hk2.box p3' (by omega); have q3 := block_alloc (nbx n1 b1 cap1) pw3; have q4 := block_alloc (nbx n1 b1 cap1) (hk2.box p4' (by omega)); obtain ⟨c0, c1, c2, c3, f0, f1, f2, f3⟩ := in4 pw3; obtain ⟨d0, d1, d2, d3, e0, e1, e2, e3⟩ := in4a pw3; obtain ⟨xs, ho, hs, hn⟩ := ((hRow4.keep hk2 (fun g hg _ => by omega)).below (ext_alloc (Below.refl _ _) (nbx n1 b1 cap1))).own; have hne3 : some (w.heap.size + 1) ≠ Value.ownBlock (.slice b' ks.length cap') := fun e => (hs _ e.symm).2.2 rfl))
        all_goals
          go_wp2
          go_roundg g
          case measure => omega
          case rel =>
            have hb2a := ext_alloc (Below.refl w2.heap.size w2) (nbx n1 b1 cap1)
            have hz2 := hk2.size
            have hy2 : NdV (fun q => (w.heap.size ≤ q ∧ q ≠ w.heap.size ∧ q ≠ w.heap.size + 1) ∧ some q ≠ Value.ownBlock (.slice b' ks.length cap')) (w2.alloc (nbx n1 b1 cap1)) n1 (ndv n1 b1 cap1) := (hN1.weak (fun q hq _ => by simp at hq; exact ⟨⟨by omega, by omega, by omega⟩, fun e => by have := (hform.out q e.symm).2; omega⟩)).below hb2a
            obtain ⟨hRow5, r3, hk5, hown5⟩ := kids_step (lo := w.heap.size) ho hs hn hy2 (fun q hq => hq.2.2) (fun q hq => by simp at hq; exact ⟨by omega, by omega, by omega⟩) hown.out (by simp; omega) q3 hown3 hgrow hat rfl
            exact ⟨ks ++ [n1], j2, _, _, r3, hk5.box q4 (fun e => by rcases e with e | e; omega; exact (hs _ e.symm).2.1 rfl), hRow5, hown5, (hR2.below hb2a).keep hk5 (fun q hq e => by rcases e with e | e; omega; have := hown.out q e.symm; omega), ((hk4.trans hk2).trans (Keeps.of_below hb2a)).then hk5 (fun q hq e => by rcases e with e | e; omega; have := hown.out q e.symm; omega), by simp; omega, hP2⟩
end Go.Proofs.YtnnppenlfocgiaaGreatDoor
namespace Go.Proofs.YtnnppenlfocgiaaGreatDoor
open Go.RowKit
open Go

theorem onR_on (x : PR) (g h : Nd → List PT → PR) : (x.on g).on h = x.on fun n l => (g n l).on h := by
  cases x with
  | none => rfl
  | some r => rcases r with l | ⟨n, l⟩ <;> rfl
theorem needR_on (s : List UInt8) (l : List PT) (g : List PT → PR) (h : Nd → List PT → PR) : (need s l g).on h = need s l fun l => (g l).on h := by
  unfold need
  split <;> rfl
theorem P6_kind : ∀ (f : Nat) (x : Nd) (a : Nat) (l : List PT) (n : Nd) (l1 : List PT), P f 6 x a l = some (.inr (n, l1)) → n.k = 21
  | 0, _, _, _, _, _, h => by cases h
  | f + 1, x, a, l, n, l1, h => by
    rw [P] at h
    obtain ⟨r0, _, h1⟩ := on_some h
    rcases h1 with ⟨_, _, e⟩ | ⟨y, l2, _, h1⟩
    · cases e
    · split at h1
      · exact P6_kind f _ _ _ _ _ h1
      · rcases need_some h1 with ⟨_, h2⟩ | ⟨_, e⟩
        · cases h2; rfl
        · cases e
theorem P5_kind {f : Nat} {x : Nd} {a : Nat} {l : List PT} {n : Nd} {l1 : List PT} (h : P f 5 x a l = some (.inr (n, l1))) : n.k = if tx l = S.lb then 20 else 21 := by
  cases f with
  | zero => cases h
  | succ f =>
    rw [P] at h
    split at h
    · rename_i hl
      rw [if_pos hl]
      obtain ⟨r0, _, h1⟩ := on_some h
      rcases h1 with ⟨_, _, e⟩ | ⟨y, l2, _, h1⟩
      · cases e
      · rcases need_some h1 with ⟨_, h2⟩ | ⟨_, e⟩
        · cases h2; rfl
        · cases e
    · rename_i hl
      rw [if_neg hl]
      rcases need_some h with ⟨_, h2⟩ | ⟨_, e⟩
      · split at h2
        · cases h2; rfl
        · exact P6_kind f _ _ _ _ _ h2
      · cases e
theorem res142 {tm : Array Value} {W : World} {B : Nat} {a b c d : Value} (h : tm[2]?.getD undef = .pointer (some ⟨B, 0, none⟩)) (hx : W.heap[B]? = some (.cells #[a, b, c, d] 24)) : (results Tryz.f121 tm).run Tryz.prog W = .ok (.agg #[a, b, c, d]) W := by
  obtain ⟨c0, c1, c2, c3, _, _, _, _⟩ := in4 hx
  simp [results, Tryz.results121, go_sem, h, c0, c1, c2, c3]
abbrev endS : Nd → List PT → PR := fun n l => need S.sc l fun l => .ok n l
/-- Between two of those behind a name. -/
def SocI (f t : Nat) (w : World) (B : Nat) (ts : List Tok) (r : PRes) (k : Nat) (s4 : Value) (wr : World) : Prop :=
  ∃ (n : Nd) (a j : Nat) (b : Option Addr) (cap : Nat), s4 = .bool (decide (a = 0)) ∧ wr.heap[t]? = some (nbx n b cap) ∧ wr.heap[w.heap.size]? = some zbx ∧ NdV (fun g => w.heap.size ≤ g ∧ g ≠ w.heap.size ∧ g ≠ t) wr n (ndv n b cap) ∧ Rd wr B ts j ∧ Keeps (fun k => k = B) w wr ∧ k ≤ f ∧ (a = 0 → n.k ≠ 21) ∧ (P k 9 n a (rest ts j)).on endS = some r
set_option maxRecDepth 20000 in
set_option maxHeartbeats 4000000 in
theorem soc_of (f : Nat) (hE : ∀ g, g ≤ f → ExprC g) (hF : ∀ g, g ≤ f → SufC g) (r : PRes) (B : Nat) (ts : List Tok) (i : Nat) (w : World) (hC : Ctx w B ts i) (hP : needName (rest ts i) (fun s l => (P f 9 ⟨18, s, 0, []⟩ 0 l).on endS) = some r) : Calls Tryz.prog 121 #[.pointer (some ⟨B, 0, none⟩)] w (PAns no w B ts r) := by
  have hBw := hC.R.lt
  have hb0 : Below w.heap.size w (w.alloc zbx) := ext_alloc (Below.refl _ _) _
  have h2 := alloc_new w zbx
  have hk0 : Keeps (fun k => k = B) w (w.alloc zbx) := Keeps.of_below hb0
  have hc1 := hC.nameU hP _ hb0
  clear hP
  go_enter Tryz.func121, Tryz.ntmps121
  go_wp2_with (go_at_call 83; refine hc1.mono ?_; rintro e w1 (⟨rfl, hle, rfl, hk1⟩ | ⟨s, hP1, rfl, hR1, hk1⟩); (exact ⟨rfl, close_pan rfl hle (hk0.trans hk1)⟩); (try dsimp only at hP1); have hk1' := hk0.trans hk1; have g1 := hk1.box h2 (by omega))
  have hz := block_lt g1
  have hb1 : Below w1.heap.size w1 (w1.alloc (nbx ⟨18, s, 0, []⟩ none 0)) := ext_alloc (Below.refl _ _) _
  have hI : SocI f w1.heap.size w B ts r f (.bool true) (w1.alloc (nbx ⟨18, s, 0, []⟩ none 0)) := ⟨⟨18, s, 0, []⟩, 0, i + 1, none, 0, rfl, alloc_new _ _, block_below hb1 g1, ndV_leaf _ _ _ _ _, hR1.below hb1, hk1'.trans (Keeps.of_below hb1), Nat.le_refl _, fun _ => by show (18 : Int) ≠ 21; decide, hP1⟩
  obtain ⟨t, ht⟩ : ∃ t, w1.heap.size = t := ⟨_, rfl⟩
  obtain ⟨W1, hW1⟩ : ∃ W1, w1.alloc (nbx ⟨18, s, 0, []⟩ none 0) = W1 := ⟨_, rfl⟩
  rw [hW1] at hI
  dsimp only [nbx, List.length_nil] at hW1
  rw [hW1]
  rw [ht] at hI hz ⊢
  clear hW1 ht hP1 hR1 hk1 hk1' g1 h2 hk0 hb1 hc1
  go_loopg [4] f (fun k s4 wr => SocI f t w B ts r k s4 wr)
  case atStart => exact hI
  case round =>
    clear hI
    obtain ⟨n, a, j, b, cap, rfl, g3, g2, hN, hR, hk, hgf, ha, hr⟩ := hrel
    have hCr := hC.on hR
    have hzt := block_lt g3
    cases gk with
    | zero => cases hr
    | succ g =>
      have hSee := hCr.sees2 pl_lb pl_lp wr (Below.refl _ _)
      by_cases hy : tx (rest ts j) = S.lb ∨ tx (rest ts j) = S.lp
      · rw [decide_eq_true hy] at hSee
        have hr' : ∃ a', (a' = 0 ↔ a = 0 ∧ tx (rest ts j) = S.lb) ∧ (P g 5 n 0 (rest ts j)).on (fun n l => (P g 9 n a' l).on endS) = some r := by
          rw [P] at hr
          split at hr
          · rename_i hl
            rw [onR_on] at hr
            exact ⟨a, ⟨fun h => ⟨h, hl⟩, fun h => h.1⟩, hr⟩
          · rename_i hl
            rw [if_pos (hy.resolve_left hl), onR_on] at hr
            exact ⟨a + 1, ⟨fun h => by omega, fun h => absurd h.2 hl⟩, hr⟩
        obtain ⟨a', ha', hr⟩ := hr'
        obtain ⟨r1, hr1, hr2⟩ := on_some hr
        have hFF := fun u (hb : Below wr.heap.size wr u) => hF g (by omega) n b cap _ r1 B ts j u (hCr.below hb) (hN.below hb) (fun g hg => by omega) hr1
        have hkd : ∀ n' l', r1 = .inr (n', l') → (a' = 0 ↔ a = 0 ∧ n'.k = 20) ∧ (n'.k = 20 ∨ n'.k = 21) := fun n' l' e => by
          subst e
          have := P5_kind hr1
          by_cases hl : tx (rest ts j) = S.lb
          · rw [if_pos hl] at this
            exact ⟨by rw [ha']; exact ⟨fun h => ⟨h.1, this⟩, fun h => ⟨h.1, hl⟩⟩, .inl this⟩
          · rw [if_neg hl] at this
            exact ⟨by rw [ha']; exact ⟨fun h => absurd h.2 hl, fun h => by omega⟩, .inr this⟩
        replace hr2 : Hid _ := hr2
        replace hkd : Hid _ := hkd
        obtain ⟨p, hp⟩ : ∃ p : Bool, decide (a = 0) = p := ⟨_, rfl⟩
        rw [hp]
        replace hp : Hid _ := hp
        clear hr hr1 hF hE ha ha'
        go_wp2_with (first | (go_at_call 84; refine hSee.mono ?_; rintro e w4 ⟨rfl, hb4⟩; have q3 := block_below hb4 g3; obtain ⟨c0, c1, c2, c3, f0, f1, f2, f3⟩ := in4 q3) | (go_at_call 132; refine (hFF _ hb4).mono ?_; intro e w5 hA; rcases r1 with l1 | ⟨n2, l2⟩; (obtain ⟨j2, hj2, hle, rfl, hk5⟩ := hA; rcases hr2.out with ⟨l, e1, e2⟩ | ⟨n, l, e1, _⟩; (cases e1; subst e2; exact ⟨rfl, close_pan hj2 hle ((hk.trans (Keeps.of_below hb4)).trans hk5)⟩); cases e1); obtain ⟨j2, b2, cap2, hj2, rfl, hN5, hR5, hk5⟩ := hA; have q3 := hk5.box q3 (by omega); obtain ⟨c0, c1, c2, c3, f0, f1, f2, f3⟩ := in4 q3; refine Hid.out ?_))
        rcases hr2.out with ⟨l, e1, _⟩ | ⟨n', l, e1, hr3⟩
        · cases e1
        cases e1
        obtain ⟨hk1, hk2⟩ := hkd.out n2 l2 rfl
        have hz5 := hb4.size
        refine Lib.hid ?_
        have hrel2 : ∀ p' : Bool, p' = (p && decide (n2.k = 20)) → SocI f t w B ts r g (.bool p') (put4 w5 t (.int .i64 n2.k) (sk n2.t) (.int .i64 n2.n) (.slice b2 n2.kids.length cap2)) := fun p' hp' => ⟨n2, a', j2, b2, cap2, by
          rw [hp', ← hp.out]
          congr 1
          rw [Bool.eq_iff_iff]
          simp [hk1], put4_same _ _ _ _ q3, (put4_other _ _ _ _ (by omega)).trans (hk5.box (block_below hb4 g2) (by omega)), (hN5.weak (fun g hg hlt => by rcases hg with hg | hg; exact hg; exact ⟨by omega, by omega, by omega⟩)).put4 _ _ _ _ _ (fun g hg => hg.2.2), hR5.put4 _ _ _ _ _ (by omega), put4_keeps ((hk.trans (Keeps.of_below hb4)).trans hk5) _ _ _ _ _ (by omega), by omega, fun h0 => by have := (hk1.1 h0).2; omega, by rw [hj2]; exact hr3⟩
        replace hrel2 : Hid _ := hrel2
        clear hr2 hkd hk1 hp hFF hN5 hN
        cases p with
        | false =>
          go_wp2
          go_roundg g
          case measure => omega
          case rel => exact hrel2.out _ rfl
        | true =>
          rcases hk2 with hk2 | hk2
          · rw [hk2] at hrel2
            go_wp2
            go_roundg g
            case measure => omega
            case rel => exact hrel2.out _ rfl
          · rw [hk2] at hrel2
            go_wp2
            go_roundg g
            case measure => omega
            case rel => exact hrel2.out _ rfl
      · rw [decide_eq_false hy] at hSee
        have hnl : ¬ tx (rest ts j) = S.lb := fun h => hy (.inl h)
        have hnp : ¬ tx (rest ts j) = S.lp := fun h => hy (.inr h)
        rw [P, if_neg hnl, if_neg hnp] at hr
        clear hF
        by_cases ha0 : a = 0
        · subst ha0
          rw [if_pos rfl, needR_on] at hr
          have hk21 : ¬ n.k = 21 := ha rfl
          by_cases heq : tx (rest ts j) = S.eq
          · have hr2 : (P g 0 nil0 0 (rest ts (j + 1))).on (fun x l => need S.sc l fun l => .ok ⟨6, [], 0, [n] ++ [x]⟩ l) = some r := by
              unfold need at hr
              rw [if_pos heq, rest_tail] at hr
              dsimp only at hr
              rw [onR_on] at hr
              exact hr
            have hT := fun u hb => hCr.takes_yes pl_eq heq u hb
            clear hr
            go_wp2_with (first
              | (go_at_call 84; refine hSee.mono ?_; rintro e w4 ⟨rfl, hb4⟩)
              | (go_at_call 85; refine (hT _ hb4).mono ?_; rintro e w5 ⟨rfl, hR5, hk5⟩; have q3 := hk5.box (block_below hb4 g3) (by omega); have q2 := hk5.box (block_below hb4 g2) (by omega); obtain ⟨c0, c1, c2, c3, f0, f1, f2, f3⟩ := in4 q3)
              | (go_at_call 120; refine Hid.out ?_))
            have hk5' := (hk.trans (Keeps.of_below hb4)).trans hk5
            have hb5 : Below w5.heap.size w5 (w5.alloc (nbx n b cap)) := ext_alloc (Below.refl _ _) _
            have hN5 : NdV (fun q => (w.heap.size ≤ q ∧ q ≠ w.heap.size) ∧ q ≠ w5.heap.size) (w5.alloc (nbx n b cap)) n (ndv n b cap) := ((((hN.below hb4).keep hk5 (fun q hq _ => by omega)).weak (S' := fun q => (w.heap.size ≤ q ∧ q ≠ w.heap.size) ∧ q ≠ w5.heap.size) (fun q hq hlt => ⟨⟨hq.1, hq.2.1⟩, by omega⟩))).below hb5
            have hz5 : wr.heap.size ≤ w5.heap.size := Nat.le_trans hb4.size hk5.size
            have hRow5 := Row.one (S := fun q => w.heap.size ≤ q ∧ q ≠ w.heap.size) ⟨by omega, by omega⟩ hN5 (alloc_new w5 (nbx n b cap))
            have hg := given_of g (hE g (by omega)) 6 _ [n] _ 1 r B ts (j + 1) _ ((hC.on hR5).below hb5) hRow5 (fun q hq => by omega) (fun q e => by have := own_is e; omega) (by simp) hr2
            have q2' := block_below hb5 q2
            have hs5 : (w5.alloc (nbx n b cap)).heap.size = w5.heap.size + 1 := World.size_alloc _ _
            clear hT hr2 hE hN hN5
            refine Lib.hid ?_
            go_wp2_with (go_at_call 120; refine hg.mono ?_; rintro e w6 (⟨j6, rfl, hle, rfl, hk6⟩ | ⟨N, j6, b6, cap6, rfl, rfl, hN6, hR6, hk6⟩); (exact ⟨rfl, close_pan rfl hle ((hk5'.trans (Keeps.of_below hb5)).then hk6 (fun q hq e => by rcases e with e | e; exact e; have := own_is e.symm; omega))⟩); have p2 := hk6.box q2' (fun e => by rcases e with e | e; omega; have := own_is e.symm; omega); obtain ⟨d0, d1, d2, d3, e0, e1, e2, e3⟩ := in4 p2)
            refine bodyPost_ret (res142 rfl (put4_same _ _ _ _ p2)) rfl ?_
            exact close_ret rfl (hN6.weak (fun q hq _ => by rcases hq with hq | hq; exact ⟨.inr hq.1, hq.2⟩; exact ⟨.inr (by omega), by omega⟩)) hR6 ((hk5'.trans (Keeps.of_below hb5)).then hk6 (fun q hq e => by rcases e with e | e; exact e; have := own_is e.symm; omega)) (Nat.le_refl _) hBw
          · have hre : r = .inl (rest ts j) := by
              unfold need at hr
              rw [if_neg heq] at hr
              exact (Option.some.inj hr).symm
            subst hre
            have hT := fun u hb => hCr.takes_no pl_eq heq u hb
            have hG := fun u (hb : Below wr.heap.size wr u) => giveUp_any B ts j u (hR.below hb)
            clear hr
            go_wp2_with (first
              | (go_at_call 84; refine hSee.mono ?_; rintro e w4 ⟨rfl, hb4⟩)
              | (go_at_call 85; refine (hT _ hb4).mono ?_; rintro e w5 ⟨rfl, hb5⟩; have hb45 := ext_trans hb4 hb5; have q3 := block_below hb45 g3; obtain ⟨c0, c1, c2, c3, f0, f1, f2, f3⟩ := in4 q3)
              | (go_at_call 95; refine (hG _ hb45).mono ?_; rintro e w6 ⟨rfl, hb6⟩))
            exact ⟨rfl, close_pan rfl hR.le ((hk.trans (Keeps.of_below hb45)).trans (Keeps.of_below hb6))⟩
        · rw [if_neg ha0] at hr
          rw [decide_eq_false ha0]
          by_cases hk21 : n.k = 21
          · rw [if_pos hk21] at hr
            have hr2 : need S.sc (rest ts j) (fun l => .ok (nd 7 [n]) l) = some r := hr
            obtain ⟨kk, tt, nn, kks⟩ := n
            simp only at hk21
            subst hk21
            have hW := fun u hb => hCr.wantsU pl_sc hr2 u hb
            clear hr hr2
            go_wp2_with (first
              | (go_at_call 84; refine hSee.mono ?_; rintro e w4 ⟨rfl, hb4⟩; have q3 := block_below hb4 g3; obtain ⟨c0, c1, c2, c3, f0, f1, f2, f3⟩ := in4 q3)
              | (go_at_call 82; refine (hW _ hb4).mono ?_; rintro e w5 (⟨rfl, hle, rfl, hk5⟩ | ⟨hP5, rfl, hR5, hk5⟩); (exact ⟨rfl, close_pan rfl hle ((hk.trans (Keeps.of_below hb4)).trans hk5)⟩); have q3 := hk5.box (block_below hb4 g3) (by omega); have q2 := hk5.box (block_below hb4 g2) (by omega); obtain ⟨c0, c1, c2, c3, f0, f1, f2, f3⟩ := in4 q3; obtain ⟨u0, u1, u2, u3, v0, v1, v2, v3⟩ := in4a q2))
            refine bodyPost_ret (res142 rfl (put4_same _ _ _ _ (block_alloc _ q2))) rfl ?_
            obtain rfl := Option.some.inj hP5
            exact close_one (w := w) (B := B) (ts := ts) 7 rfl (((hN.below hb4).keep hk5 (fun q hq _ => by omega)).weak (fun q hq _ => ⟨hq.1, hq.2.1⟩)) hR5 ((hk.trans (Keeps.of_below hb4)).trans hk5) (Nat.le_refl _) hBw q2
          · rw [if_neg hk21] at hr
            have hre : r = .inl (rest ts j) := (Option.some.inj hr).symm
            subst hre
            have hG := fun u (hb : Below wr.heap.size wr u) => giveUp_any B ts j u (hR.below hb)
            clear hr
            go_wp2_with (first
              | (go_at_call 84; refine hSee.mono ?_; rintro e w4 ⟨rfl, hb4⟩; have q3 := block_below hb4 g3; obtain ⟨c0, c1, c2, c3, f0, f1, f2, f3⟩ := in4 q3)
              | (go_at_call 95; refine (hG _ hb4).mono ?_; rintro e w6 ⟨rfl, hb6⟩))
            exact ⟨rfl, close_pan rfl hR.le ((hk.trans (Keeps.of_below hb4)).trans (Keeps.of_below hb6))⟩
end Go.Proofs.YtnnppenlfocgiaaGreatDoor
namespace Go.Proofs.YtnnppenlfocgiaaGreatDoor
open Go.RowKit
open Go

theorem res115 {tm : Array Value} {W : World} {B : Nat} {a b c d : Value} (h : tm[2]?.getD undef = .pointer (some ⟨B, 0, none⟩)) (hx : W.heap[B]? = some (.cells #[a, b, c, d] 24)) : (results Tryz.f99 tm).run Tryz.prog W = .ok (.agg #[a, b, c, d]) W := by
  obtain ⟨c0, c1, c2, c3, _, _, _, _⟩ := in4 hx
  simp [results, Tryz.results99, go_sem, h, c0, c1, c2, c3]
theorem pl_local : plainS W.local_ := ⟨_, _, rfl, rfl⟩
theorem pl_if : plainS W.if_ := ⟨_, _, rfl, rfl⟩
theorem pl_while : plainS W.while_ := ⟨_, _, rfl, rfl⟩
theorem pl_for : plainS W.for_ := ⟨_, _, rfl, rfl⟩
theorem pl_return : plainS W.return_ := ⟨_, _, rfl, rfl⟩
theorem pl_emit : plainS W.emit_ := ⟨_, _, rfl, rfl⟩
set_option maxRecDepth 20000 in
set_option maxHeartbeats 1000000 in
theorem stat_0 (r : PRes) (B : Nat) (ts : List Tok) (i : Nat) (w : World) (hC : Ctx w B ts i)  (hy : tx (rest ts i) = W.local_) (hX : ∀ u, Ctx u B ts (i + 1) → Calls Tryz.prog 116 #[.pointer (some ⟨B, 0, none⟩)] u (PAns no u B ts r)) : Calls Tryz.prog 99 #[.pointer (some ⟨B, 0, none⟩)] w (PAns no w B ts r) := by
  have hBw := hC.R.lt
  have hb0 : Below w.heap.size w (w.alloc zbx) := ext_alloc (Below.refl _ _) _
  have z0 := alloc_new w zbx
  have hTy := fun u hb => hC.takes_yes pl_local hy u hb
  cases r with
  | inl l =>
    go_enter Tryz.func99, Tryz.ntmps99
    go_wp2_with (first
    | (go_at_call_of 85 (Value.string ⟨#[108, 111, 99, 97, 108]⟩); refine (hTy _ hb0).mono ?_; rintro e wy ⟨rfl, hRy, hky⟩; have hkw := (Keeps.of_below (S := fun k => k = B) hb0).trans hky; have g2 := hky.box z0 (by omega); have hCX := hC.on hRy)
    | (go_at_call 116; refine (hX _ hCX).mono ?_; rintro e wz ⟨j, hj, hle, rfl, hkz⟩))
    exact ⟨rfl, close_pan hj hle (hkw.trans hkz)⟩
  | inr p =>
    obtain ⟨n, l⟩ := p
    go_enter Tryz.func99, Tryz.ntmps99
    go_wp2_with (first
    | (go_at_call_of 85 (Value.string ⟨#[108, 111, 99, 97, 108]⟩); refine (hTy _ hb0).mono ?_; rintro e wy ⟨rfl, hRy, hky⟩; have hkw := (Keeps.of_below (S := fun k => k = B) hb0).trans hky; have g2 := hky.box z0 (by omega); have hCX := hC.on hRy)
    | (go_at_call 116; refine (hX _ hCX).mono ?_; rintro e wz ⟨j, b, cap, hj, rfl, hN, hR, hkz⟩; have q2 := hkz.box g2 (by omega); obtain ⟨d0, d1, d2, d3, e0, e1, e2, e3⟩ := in4 q2))
    refine bodyPost_ret (res115 rfl (put4_same _ _ _ _ q2)) rfl ?_
    exact close_ret hj (hN.weak (fun q hq _ => by have := block_lt g2; rcases hq with hq | hq; exact hq.elim; exact ⟨.inr (by omega), by omega⟩)) hR (hkw.trans hkz) (Nat.le_refl _) hBw
set_option maxRecDepth 20000 in
set_option maxHeartbeats 1000000 in
theorem stat_1 (r : PRes) (B : Nat) (ts : List Tok) (i : Nat) (w : World) (hC : Ctx w B ts i) (hn0 : ¬ tx (rest ts i) = W.local_) (hy : tx (rest ts i) = W.if_) (hX : ∀ u, Ctx u B ts (i + 1) → Calls Tryz.prog 117 #[.pointer (some ⟨B, 0, none⟩)] u (PAns no u B ts r)) : Calls Tryz.prog 99 #[.pointer (some ⟨B, 0, none⟩)] w (PAns no w B ts r) := by
  have hBw := hC.R.lt
  have hb0 : Below w.heap.size w (w.alloc zbx) := ext_alloc (Below.refl _ _) _
  have z0 := alloc_new w zbx
  have hT0 := fun u hb => hC.takes_no pl_local hn0 u hb
  have hTy := fun u hb => hC.takes_yes pl_if hy u hb
  cases r with
  | inl l =>
    go_enter Tryz.func99, Tryz.ntmps99
    go_wp2_with (first
    | (go_at_call_of 85 (Value.string ⟨#[108, 111, 99, 97, 108]⟩); refine (hT0 _ hb0).mono ?_; rintro e w1 ⟨rfl, hbx1⟩; have hb1 := ext_trans hb0 hbx1; have z1 := block_below hbx1 z0)
    | (go_at_call_of 85 (Value.string ⟨#[105, 102]⟩); refine (hTy _ hb1).mono ?_; rintro e wy ⟨rfl, hRy, hky⟩; have hkw := (Keeps.of_below (S := fun k => k = B) hb1).trans hky; have g2 := hky.box z1 (by omega); have hCX := hC.on hRy)
    | (go_at_call 117; refine (hX _ hCX).mono ?_; rintro e wz ⟨j, hj, hle, rfl, hkz⟩))
    exact ⟨rfl, close_pan hj hle (hkw.trans hkz)⟩
  | inr p =>
    obtain ⟨n, l⟩ := p
    go_enter Tryz.func99, Tryz.ntmps99
    go_wp2_with (first
    | (go_at_call_of 85 (Value.string ⟨#[108, 111, 99, 97, 108]⟩); refine (hT0 _ hb0).mono ?_; rintro e w1 ⟨rfl, hbx1⟩; have hb1 := ext_trans hb0 hbx1; have z1 := block_below hbx1 z0)
    | (go_at_call_of 85 (Value.string ⟨#[105, 102]⟩); refine (hTy _ hb1).mono ?_; rintro e wy ⟨rfl, hRy, hky⟩; have hkw := (Keeps.of_below (S := fun k => k = B) hb1).trans hky; have g2 := hky.box z1 (by omega); have hCX := hC.on hRy)
    | (go_at_call 117; refine (hX _ hCX).mono ?_; rintro e wz ⟨j, b, cap, hj, rfl, hN, hR, hkz⟩; have q2 := hkz.box g2 (by omega); obtain ⟨d0, d1, d2, d3, e0, e1, e2, e3⟩ := in4 q2))
    refine bodyPost_ret (res115 rfl (put4_same _ _ _ _ q2)) rfl ?_
    exact close_ret hj (hN.weak (fun q hq _ => by have := block_lt g2; rcases hq with hq | hq; exact hq.elim; exact ⟨.inr (by omega), by omega⟩)) hR (hkw.trans hkz) (Nat.le_refl _) hBw
set_option maxRecDepth 20000 in
set_option maxHeartbeats 1000000 in
theorem stat_2 (r : PRes) (B : Nat) (ts : List Tok) (i : Nat) (w : World) (hC : Ctx w B ts i) (hn0 : ¬ tx (rest ts i) = W.local_) (hn1 : ¬ tx (rest ts i) = W.if_) (hy : tx (rest ts i) = W.while_) (hX : ∀ u, Ctx u B ts (i + 1) → Calls Tryz.prog 118 #[.pointer (some ⟨B, 0, none⟩)] u (PAns no u B ts r)) : Calls Tryz.prog 99 #[.pointer (some ⟨B, 0, none⟩)] w (PAns no w B ts r) := by
  have hBw := hC.R.lt
  have hb0 : Below w.heap.size w (w.alloc zbx) := ext_alloc (Below.refl _ _) _
  have z0 := alloc_new w zbx
  have hT0 := fun u hb => hC.takes_no pl_local hn0 u hb
  have hT1 := fun u hb => hC.takes_no pl_if hn1 u hb
  have hTy := fun u hb => hC.takes_yes pl_while hy u hb
  cases r with
  | inl l =>
    go_enter Tryz.func99, Tryz.ntmps99
    go_wp2_with (first
    | (go_at_call_of 85 (Value.string ⟨#[108, 111, 99, 97, 108]⟩); refine (hT0 _ hb0).mono ?_; rintro e w1 ⟨rfl, hbx1⟩; have hb1 := ext_trans hb0 hbx1; have z1 := block_below hbx1 z0)
    | (go_at_call_of 85 (Value.string ⟨#[105, 102]⟩); refine (hT1 _ hb1).mono ?_; rintro e w2 ⟨rfl, hbx2⟩; have hb2 := ext_trans hb1 hbx2; have z2 := block_below hbx2 z1)
    | (go_at_call_of 85 (Value.string ⟨#[119, 104, 105, 108, 101]⟩); refine (hTy _ hb2).mono ?_; rintro e wy ⟨rfl, hRy, hky⟩; have hkw := (Keeps.of_below (S := fun k => k = B) hb2).trans hky; have g2 := hky.box z2 (by omega); have hCX := hC.on hRy)
    | (go_at_call 118; refine (hX _ hCX).mono ?_; rintro e wz ⟨j, hj, hle, rfl, hkz⟩))
    exact ⟨rfl, close_pan hj hle (hkw.trans hkz)⟩
  | inr p =>
    obtain ⟨n, l⟩ := p
    go_enter Tryz.func99, Tryz.ntmps99
    go_wp2_with (first
    | (go_at_call_of 85 (Value.string ⟨#[108, 111, 99, 97, 108]⟩); refine (hT0 _ hb0).mono ?_; rintro e w1 ⟨rfl, hbx1⟩; have hb1 := ext_trans hb0 hbx1; have z1 := block_below hbx1 z0)
    | (go_at_call_of 85 (Value.string ⟨#[105, 102]⟩); refine (hT1 _ hb1).mono ?_; rintro e w2 ⟨rfl, hbx2⟩; have hb2 := ext_trans hb1 hbx2; have z2 := block_below hbx2 z1)
    | (go_at_call_of 85 (Value.string ⟨#[119, 104, 105, 108, 101]⟩); refine (hTy _ hb2).mono ?_; rintro e wy ⟨rfl, hRy, hky⟩; have hkw := (Keeps.of_below (S := fun k => k = B) hb2).trans hky; have g2 := hky.box z2 (by omega); have hCX := hC.on hRy)
    | (go_at_call 118; refine (hX _ hCX).mono ?_; rintro e wz ⟨j, b, cap, hj, rfl, hN, hR, hkz⟩; have q2 := hkz.box g2 (by omega); obtain ⟨d0, d1, d2, d3, e0, e1, e2, e3⟩ := in4 q2))
    refine bodyPost_ret (res115 rfl (put4_same _ _ _ _ q2)) rfl ?_
    exact close_ret hj (hN.weak (fun q hq _ => by have := block_lt g2; rcases hq with hq | hq; exact hq.elim; exact ⟨.inr (by omega), by omega⟩)) hR (hkw.trans hkz) (Nat.le_refl _) hBw
set_option maxRecDepth 20000 in
set_option maxHeartbeats 1000000 in
theorem stat_3 (r : PRes) (B : Nat) (ts : List Tok) (i : Nat) (w : World) (hC : Ctx w B ts i) (hn0 : ¬ tx (rest ts i) = W.local_) (hn1 : ¬ tx (rest ts i) = W.if_) (hn2 : ¬ tx (rest ts i) = W.while_) (hy : tx (rest ts i) = W.for_) (hX : ∀ u, Ctx u B ts (i + 1) → Calls Tryz.prog 119 #[.pointer (some ⟨B, 0, none⟩)] u (PAns no u B ts r)) : Calls Tryz.prog 99 #[.pointer (some ⟨B, 0, none⟩)] w (PAns no w B ts r) := by
  have hBw := hC.R.lt
  have hb0 : Below w.heap.size w (w.alloc zbx) := ext_alloc (Below.refl _ _) _
  have z0 := alloc_new w zbx
  have hT0 := fun u hb => hC.takes_no pl_local hn0 u hb
  have hT1 := fun u hb => hC.takes_no pl_if hn1 u hb
  have hT2 := fun u hb => hC.takes_no pl_while hn2 u hb
  have hTy := fun u hb => hC.takes_yes pl_for hy u hb
  cases r with
  | inl l =>
    go_enter Tryz.func99, Tryz.ntmps99
    go_wp2_with (first
    | (go_at_call_of 85 (Value.string ⟨#[108, 111, 99, 97, 108]⟩); refine (hT0 _ hb0).mono ?_; rintro e w1 ⟨rfl, hbx1⟩; have hb1 := ext_trans hb0 hbx1; have z1 := block_below hbx1 z0)
    | (go_at_call_of 85 (Value.string ⟨#[105, 102]⟩); refine (hT1 _ hb1).mono ?_; rintro e w2 ⟨rfl, hbx2⟩; have hb2 := ext_trans hb1 hbx2; have z2 := block_below hbx2 z1)
    | (go_at_call_of 85 (Value.string ⟨#[119, 104, 105, 108, 101]⟩); refine (hT2 _ hb2).mono ?_; rintro e w3 ⟨rfl, hbx3⟩; have hb3 := ext_trans hb2 hbx3; have z3 := block_below hbx3 z2)
    | (go_at_call_of 85 (Value.string ⟨#[102, 111, 114]⟩); refine (hTy _ hb3).mono ?_; rintro e wy ⟨rfl, hRy, hky⟩; have hkw := (Keeps.of_below (S := fun k => k = B) hb3).trans hky; have g2 := hky.box z3 (by omega); have hCX := hC.on hRy)
    | (go_at_call 119; refine (hX _ hCX).mono ?_; rintro e wz ⟨j, hj, hle, rfl, hkz⟩))
    exact ⟨rfl, close_pan hj hle (hkw.trans hkz)⟩
  | inr p =>
    obtain ⟨n, l⟩ := p
    go_enter Tryz.func99, Tryz.ntmps99
    go_wp2_with (first
    | (go_at_call_of 85 (Value.string ⟨#[108, 111, 99, 97, 108]⟩); refine (hT0 _ hb0).mono ?_; rintro e w1 ⟨rfl, hbx1⟩; have hb1 := ext_trans hb0 hbx1; have z1 := block_below hbx1 z0)
    | (go_at_call_of 85 (Value.string ⟨#[105, 102]⟩); refine (hT1 _ hb1).mono ?_; rintro e w2 ⟨rfl, hbx2⟩; have hb2 := ext_trans hb1 hbx2; have z2 := block_below hbx2 z1)
    | (go_at_call_of 85 (Value.string ⟨#[119, 104, 105, 108, 101]⟩); refine (hT2 _ hb2).mono ?_; rintro e w3 ⟨rfl, hbx3⟩; have hb3 := ext_trans hb2 hbx3; have z3 := block_below hbx3 z2)
    | (go_at_call_of 85 (Value.string ⟨#[102, 111, 114]⟩); refine (hTy _ hb3).mono ?_; rintro e wy ⟨rfl, hRy, hky⟩; have hkw := (Keeps.of_below (S := fun k => k = B) hb3).trans hky; have g2 := hky.box z3 (by omega); have hCX := hC.on hRy)
    | (go_at_call 119; refine (hX _ hCX).mono ?_; rintro e wz ⟨j, b, cap, hj, rfl, hN, hR, hkz⟩; have q2 := hkz.box g2 (by omega); obtain ⟨d0, d1, d2, d3, e0, e1, e2, e3⟩ := in4 q2))
    refine bodyPost_ret (res115 rfl (put4_same _ _ _ _ q2)) rfl ?_
    exact close_ret hj (hN.weak (fun q hq _ => by have := block_lt g2; rcases hq with hq | hq; exact hq.elim; exact ⟨.inr (by omega), by omega⟩)) hR (hkw.trans hkz) (Nat.le_refl _) hBw
set_option maxRecDepth 20000 in
set_option maxHeartbeats 1000000 in
theorem stat_4 (r : PRes) (B : Nat) (ts : List Tok) (i : Nat) (w : World) (hC : Ctx w B ts i) (hn0 : ¬ tx (rest ts i) = W.local_) (hn1 : ¬ tx (rest ts i) = W.if_) (hn2 : ¬ tx (rest ts i) = W.while_) (hn3 : ¬ tx (rest ts i) = W.for_) (hy : tx (rest ts i) = W.return_) (hX : ∀ u, Ctx u B ts (i + 1) → Calls Tryz.prog 120 #[.pointer (some ⟨B, 0, none⟩), .int .i64 11, .slice none 0 0] u (PAns no u B ts r)) : Calls Tryz.prog 99 #[.pointer (some ⟨B, 0, none⟩)] w (PAns no w B ts r) := by
  have hBw := hC.R.lt
  have hb0 : Below w.heap.size w (w.alloc zbx) := ext_alloc (Below.refl _ _) _
  have z0 := alloc_new w zbx
  have hT0 := fun u hb => hC.takes_no pl_local hn0 u hb
  have hT1 := fun u hb => hC.takes_no pl_if hn1 u hb
  have hT2 := fun u hb => hC.takes_no pl_while hn2 u hb
  have hT3 := fun u hb => hC.takes_no pl_for hn3 u hb
  have hTy := fun u hb => hC.takes_yes pl_return hy u hb
  cases r with
  | inl l =>
    go_enter Tryz.func99, Tryz.ntmps99
    go_wp2_with (first
    | (go_at_call_of 85 (Value.string ⟨#[108, 111, 99, 97, 108]⟩); refine (hT0 _ hb0).mono ?_; rintro e w1 ⟨rfl, hbx1⟩; have hb1 := ext_trans hb0 hbx1; have z1 := block_below hbx1 z0)
    | (go_at_call_of 85 (Value.string ⟨#[105, 102]⟩); refine (hT1 _ hb1).mono ?_; rintro e w2 ⟨rfl, hbx2⟩; have hb2 := ext_trans hb1 hbx2; have z2 := block_below hbx2 z1)
    | (go_at_call_of 85 (Value.string ⟨#[119, 104, 105, 108, 101]⟩); refine (hT2 _ hb2).mono ?_; rintro e w3 ⟨rfl, hbx3⟩; have hb3 := ext_trans hb2 hbx3; have z3 := block_below hbx3 z2)
    | (go_at_call_of 85 (Value.string ⟨#[102, 111, 114]⟩); refine (hT3 _ hb3).mono ?_; rintro e w4 ⟨rfl, hbx4⟩; have hb4 := ext_trans hb3 hbx4; have z4 := block_below hbx4 z3)
    | (go_at_call_of 85 (Value.string ⟨#[114, 101, 116, 117, 114, 110]⟩); refine (hTy _ hb4).mono ?_; rintro e wy ⟨rfl, hRy, hky⟩; have hkw := (Keeps.of_below (S := fun k => k = B) hb4).trans hky; have g2 := hky.box z4 (by omega); have hCX := hC.on hRy)
    | (go_at_call 120; refine (hX _ hCX).mono ?_; rintro e wz ⟨j, hj, hle, rfl, hkz⟩))
    exact ⟨rfl, close_pan hj hle (hkw.trans hkz)⟩
  | inr p =>
    obtain ⟨n, l⟩ := p
    go_enter Tryz.func99, Tryz.ntmps99
    go_wp2_with (first
    | (go_at_call_of 85 (Value.string ⟨#[108, 111, 99, 97, 108]⟩); refine (hT0 _ hb0).mono ?_; rintro e w1 ⟨rfl, hbx1⟩; have hb1 := ext_trans hb0 hbx1; have z1 := block_below hbx1 z0)
    | (go_at_call_of 85 (Value.string ⟨#[105, 102]⟩); refine (hT1 _ hb1).mono ?_; rintro e w2 ⟨rfl, hbx2⟩; have hb2 := ext_trans hb1 hbx2; have z2 := block_below hbx2 z1)
    | (go_at_call_of 85 (Value.string ⟨#[119, 104, 105, 108, 101]⟩); refine (hT2 _ hb2).mono ?_; rintro e w3 ⟨rfl, hbx3⟩; have hb3 := ext_trans hb2 hbx3; have z3 := block_below hbx3 z2)
    | (go_at_call_of 85 (Value.string ⟨#[102, 111, 114]⟩); refine (hT3 _ hb3).mono ?_; rintro e w4 ⟨rfl, hbx4⟩; have hb4 := ext_trans hb3 hbx4; have z4 := block_below hbx4 z3)
    | (go_at_call_of 85 (Value.string ⟨#[114, 101, 116, 117, 114, 110]⟩); refine (hTy _ hb4).mono ?_; rintro e wy ⟨rfl, hRy, hky⟩; have hkw := (Keeps.of_below (S := fun k => k = B) hb4).trans hky; have g2 := hky.box z4 (by omega); have hCX := hC.on hRy)
    | (go_at_call 120; refine (hX _ hCX).mono ?_; rintro e wz ⟨j, b, cap, hj, rfl, hN, hR, hkz⟩; have q2 := hkz.box g2 (by omega); obtain ⟨d0, d1, d2, d3, e0, e1, e2, e3⟩ := in4 q2))
    refine bodyPost_ret (res115 rfl (put4_same _ _ _ _ q2)) rfl ?_
    exact close_ret hj (hN.weak (fun q hq _ => by have := block_lt g2; rcases hq with hq | hq; exact hq.elim; exact ⟨.inr (by omega), by omega⟩)) hR (hkw.trans hkz) (Nat.le_refl _) hBw
set_option maxRecDepth 20000 in
set_option maxHeartbeats 1000000 in
theorem stat_5 (r : PRes) (B : Nat) (ts : List Tok) (i : Nat) (w : World) (hC : Ctx w B ts i) (hn0 : ¬ tx (rest ts i) = W.local_) (hn1 : ¬ tx (rest ts i) = W.if_) (hn2 : ¬ tx (rest ts i) = W.while_) (hn3 : ¬ tx (rest ts i) = W.for_) (hn4 : ¬ tx (rest ts i) = W.return_) (hy : tx (rest ts i) = W.emit_) (hX : ∀ u, Ctx u B ts (i + 1) → Calls Tryz.prog 120 #[.pointer (some ⟨B, 0, none⟩), .int .i64 12, .slice none 0 0] u (PAns no u B ts r)) : Calls Tryz.prog 99 #[.pointer (some ⟨B, 0, none⟩)] w (PAns no w B ts r) := by
  have hBw := hC.R.lt
  have hb0 : Below w.heap.size w (w.alloc zbx) := ext_alloc (Below.refl _ _) _
  have z0 := alloc_new w zbx
  have hT0 := fun u hb => hC.takes_no pl_local hn0 u hb
  have hT1 := fun u hb => hC.takes_no pl_if hn1 u hb
  have hT2 := fun u hb => hC.takes_no pl_while hn2 u hb
  have hT3 := fun u hb => hC.takes_no pl_for hn3 u hb
  have hT4 := fun u hb => hC.takes_no pl_return hn4 u hb
  have hTy := fun u hb => hC.takes_yes pl_emit hy u hb
  cases r with
  | inl l =>
    go_enter Tryz.func99, Tryz.ntmps99
    go_wp2_with (first
    | (go_at_call_of 85 (Value.string ⟨#[108, 111, 99, 97, 108]⟩); refine (hT0 _ hb0).mono ?_; rintro e w1 ⟨rfl, hbx1⟩; have hb1 := ext_trans hb0 hbx1; have z1 := block_below hbx1 z0)
    | (go_at_call_of 85 (Value.string ⟨#[105, 102]⟩); refine (hT1 _ hb1).mono ?_; rintro e w2 ⟨rfl, hbx2⟩; have hb2 := ext_trans hb1 hbx2; have z2 := block_below hbx2 z1)
    | (go_at_call_of 85 (Value.string ⟨#[119, 104, 105, 108, 101]⟩); refine (hT2 _ hb2).mono ?_; rintro e w3 ⟨rfl, hbx3⟩; have hb3 := ext_trans hb2 hbx3; have z3 := block_below hbx3 z2)
    | (go_at_call_of 85 (Value.string ⟨#[102, 111, 114]⟩); refine (hT3 _ hb3).mono ?_; rintro e w4 ⟨rfl, hbx4⟩; have hb4 := ext_trans hb3 hbx4; have z4 := block_below hbx4 z3)
    | (go_at_call_of 85 (Value.string ⟨#[114, 101, 116, 117, 114, 110]⟩); refine (hT4 _ hb4).mono ?_; rintro e w5 ⟨rfl, hbx5⟩; have hb5 := ext_trans hb4 hbx5; have z5 := block_below hbx5 z4)
    | (go_at_call_of 85 (Value.string ⟨#[101, 109, 105, 116]⟩); refine (hTy _ hb5).mono ?_; rintro e wy ⟨rfl, hRy, hky⟩; have hkw := (Keeps.of_below (S := fun k => k = B) hb5).trans hky; have g2 := hky.box z5 (by omega); have hCX := hC.on hRy)
    | (go_at_call 120; refine (hX _ hCX).mono ?_; rintro e wz ⟨j, hj, hle, rfl, hkz⟩))
    exact ⟨rfl, close_pan hj hle (hkw.trans hkz)⟩
  | inr p =>
    obtain ⟨n, l⟩ := p
    go_enter Tryz.func99, Tryz.ntmps99
    go_wp2_with (first
    | (go_at_call_of 85 (Value.string ⟨#[108, 111, 99, 97, 108]⟩); refine (hT0 _ hb0).mono ?_; rintro e w1 ⟨rfl, hbx1⟩; have hb1 := ext_trans hb0 hbx1; have z1 := block_below hbx1 z0)
    | (go_at_call_of 85 (Value.string ⟨#[105, 102]⟩); refine (hT1 _ hb1).mono ?_; rintro e w2 ⟨rfl, hbx2⟩; have hb2 := ext_trans hb1 hbx2; have z2 := block_below hbx2 z1)
    | (go_at_call_of 85 (Value.string ⟨#[119, 104, 105, 108, 101]⟩); refine (hT2 _ hb2).mono ?_; rintro e w3 ⟨rfl, hbx3⟩; have hb3 := ext_trans hb2 hbx3; have z3 := block_below hbx3 z2)
    | (go_at_call_of 85 (Value.string ⟨#[102, 111, 114]⟩); refine (hT3 _ hb3).mono ?_; rintro e w4 ⟨rfl, hbx4⟩; have hb4 := ext_trans hb3 hbx4; have z4 := block_below hbx4 z3)
    | (go_at_call_of 85 (Value.string ⟨#[114, 101, 116, 117, 114, 110]⟩); refine (hT4 _ hb4).mono ?_; rintro e w5 ⟨rfl, hbx5⟩; have hb5 := ext_trans hb4 hbx5; have z5 := block_below hbx5 z4)
    | (go_at_call_of 85 (Value.string ⟨#[101, 109, 105, 116]⟩); refine (hTy _ hb5).mono ?_; rintro e wy ⟨rfl, hRy, hky⟩; have hkw := (Keeps.of_below (S := fun k => k = B) hb5).trans hky; have g2 := hky.box z5 (by omega); have hCX := hC.on hRy)
    | (go_at_call 120; refine (hX _ hCX).mono ?_; rintro e wz ⟨j, b, cap, hj, rfl, hN, hR, hkz⟩; have q2 := hkz.box g2 (by omega); obtain ⟨d0, d1, d2, d3, e0, e1, e2, e3⟩ := in4 q2))
    refine bodyPost_ret (res115 rfl (put4_same _ _ _ _ q2)) rfl ?_
    exact close_ret hj (hN.weak (fun q hq _ => by have := block_lt g2; rcases hq with hq | hq; exact hq.elim; exact ⟨.inr (by omega), by omega⟩)) hR (hkw.trans hkz) (Nat.le_refl _) hBw
set_option maxRecDepth 20000 in
set_option maxHeartbeats 1000000 in
theorem stat_6 (r : PRes) (B : Nat) (ts : List Tok) (i : Nat) (w : World) (hC : Ctx w B ts i) (hn0 : ¬ tx (rest ts i) = W.local_) (hn1 : ¬ tx (rest ts i) = W.if_) (hn2 : ¬ tx (rest ts i) = W.while_) (hn3 : ¬ tx (rest ts i) = W.for_) (hn4 : ¬ tx (rest ts i) = W.return_) (hn5 : ¬ tx (rest ts i) = W.emit_) (hX : ∀ u, Ctx u B ts i → Calls Tryz.prog 121 #[.pointer (some ⟨B, 0, none⟩)] u (PAns no u B ts r)) : Calls Tryz.prog 99 #[.pointer (some ⟨B, 0, none⟩)] w (PAns no w B ts r) := by
  have hBw := hC.R.lt
  have hb0 : Below w.heap.size w (w.alloc zbx) := ext_alloc (Below.refl _ _) _
  have z0 := alloc_new w zbx
  have hT0 := fun u hb => hC.takes_no pl_local hn0 u hb
  have hT1 := fun u hb => hC.takes_no pl_if hn1 u hb
  have hT2 := fun u hb => hC.takes_no pl_while hn2 u hb
  have hT3 := fun u hb => hC.takes_no pl_for hn3 u hb
  have hT4 := fun u hb => hC.takes_no pl_return hn4 u hb
  have hT5 := fun u hb => hC.takes_no pl_emit hn5 u hb
  cases r with
  | inl l =>
    go_enter Tryz.func99, Tryz.ntmps99
    go_wp2_with (first
    | (go_at_call_of 85 (Value.string ⟨#[108, 111, 99, 97, 108]⟩); refine (hT0 _ hb0).mono ?_; rintro e w1 ⟨rfl, hbx1⟩; have hb1 := ext_trans hb0 hbx1; have z1 := block_below hbx1 z0)
    | (go_at_call_of 85 (Value.string ⟨#[105, 102]⟩); refine (hT1 _ hb1).mono ?_; rintro e w2 ⟨rfl, hbx2⟩; have hb2 := ext_trans hb1 hbx2; have z2 := block_below hbx2 z1)
    | (go_at_call_of 85 (Value.string ⟨#[119, 104, 105, 108, 101]⟩); refine (hT2 _ hb2).mono ?_; rintro e w3 ⟨rfl, hbx3⟩; have hb3 := ext_trans hb2 hbx3; have z3 := block_below hbx3 z2)
    | (go_at_call_of 85 (Value.string ⟨#[102, 111, 114]⟩); refine (hT3 _ hb3).mono ?_; rintro e w4 ⟨rfl, hbx4⟩; have hb4 := ext_trans hb3 hbx4; have z4 := block_below hbx4 z3)
    | (go_at_call_of 85 (Value.string ⟨#[114, 101, 116, 117, 114, 110]⟩); refine (hT4 _ hb4).mono ?_; rintro e w5 ⟨rfl, hbx5⟩; have hb5 := ext_trans hb4 hbx5; have z5 := block_below hbx5 z4)
    | (go_at_call_of 85 (Value.string ⟨#[101, 109, 105, 116]⟩); refine (hT5 _ hb5).mono ?_; rintro e w6 ⟨rfl, hbx6⟩; have hb6 := ext_trans hb5 hbx6; have z6 := block_below hbx6 z5)
    | (go_at_call 121; refine (hX _ (hC.below hb6)).mono ?_; rintro e wz ⟨j, hj, hle, rfl, hkz⟩))
    exact ⟨rfl, close_pan hj hle ((Keeps.of_below hb6).trans hkz)⟩
  | inr p =>
    obtain ⟨n, l⟩ := p
    go_enter Tryz.func99, Tryz.ntmps99
    go_wp2_with (first
    | (go_at_call_of 85 (Value.string ⟨#[108, 111, 99, 97, 108]⟩); refine (hT0 _ hb0).mono ?_; rintro e w1 ⟨rfl, hbx1⟩; have hb1 := ext_trans hb0 hbx1; have z1 := block_below hbx1 z0)
    | (go_at_call_of 85 (Value.string ⟨#[105, 102]⟩); refine (hT1 _ hb1).mono ?_; rintro e w2 ⟨rfl, hbx2⟩; have hb2 := ext_trans hb1 hbx2; have z2 := block_below hbx2 z1)
    | (go_at_call_of 85 (Value.string ⟨#[119, 104, 105, 108, 101]⟩); refine (hT2 _ hb2).mono ?_; rintro e w3 ⟨rfl, hbx3⟩; have hb3 := ext_trans hb2 hbx3; have z3 := block_below hbx3 z2)
    | (go_at_call_of 85 (Value.string ⟨#[102, 111, 114]⟩); refine (hT3 _ hb3).mono ?_; rintro e w4 ⟨rfl, hbx4⟩; have hb4 := ext_trans hb3 hbx4; have z4 := block_below hbx4 z3)
    | (go_at_call_of 85 (Value.string ⟨#[114, 101, 116, 117, 114, 110]⟩); refine (hT4 _ hb4).mono ?_; rintro e w5 ⟨rfl, hbx5⟩; have hb5 := ext_trans hb4 hbx5; have z5 := block_below hbx5 z4)
    | (go_at_call_of 85 (Value.string ⟨#[101, 109, 105, 116]⟩); refine (hT5 _ hb5).mono ?_; rintro e w6 ⟨rfl, hbx6⟩; have hb6 := ext_trans hb5 hbx6; have z6 := block_below hbx6 z5)
    | (go_at_call 121; refine (hX _ (hC.below hb6)).mono ?_; rintro e wz ⟨j, b, cap, hj, rfl, hN, hR, hkz⟩; have q2 := hkz.box z6 (by omega); obtain ⟨d0, d1, d2, d3, e0, e1, e2, e3⟩ := in4 q2))
    refine bodyPost_ret (res115 rfl (put4_same _ _ _ _ q2)) rfl ?_
    exact close_ret hj (hN.weak (fun q hq _ => by have := block_lt z6; rcases hq with hq | hq; exact hq.elim; exact ⟨.inr (by omega), by omega⟩)) hR ((Keeps.of_below hb6).trans hkz) (Nat.le_refl _) hBw
theorem stat_of (f : Nat) (hE : ∀ g, g ≤ f → ExprC g) (hF : ∀ g, g ≤ f → SufC g) (hB : BlkC f) : StatC (f + 1) := by
  intro r B ts i w hC hP
  have hEf := hE f (Nat.le_refl _)
  rw [P] at hP
  split at hP
  · rename_i h0
    rw [rest_tail] at hP
    exact stat_0 r B ts i w hC h0 (fun u h => local_of f hEf r B ts (i + 1) u h hP)
  rename_i h0
  split at hP
  · rename_i h1
    rw [rest_tail] at hP
    exact stat_1 r B ts i w hC h0 h1 (fun u h => choice_of f hEf hB r B ts (i + 1) u h hP)
  rename_i h1
  split at hP
  · rename_i h2
    rw [rest_tail] at hP
    exact stat_2 r B ts i w hC h0 h1 h2 (fun u h => loop_of f hEf hB r B ts (i + 1) u h hP)
  rename_i h2
  split at hP
  · rename_i h3
    rw [rest_tail] at hP
    exact stat_3 r B ts i w hC h0 h1 h2 h3 (fun u h => count_of f hEf hB r B ts (i + 1) u h hP)
  rename_i h3
  split at hP
  · rename_i h4
    rw [rest_tail] at hP
    exact stat_4 r B ts i w hC h0 h1 h2 h3 h4 (fun u h => given_nil f hEf 11 r B ts (i + 1) u h hP)
  rename_i h4
  split at hP
  · rename_i h5
    rw [rest_tail] at hP
    exact stat_5 r B ts i w hC h0 h1 h2 h3 h4 h5 (fun u h => given_nil f hEf 12 r B ts (i + 1) u h hP)
  rename_i h5
  exact stat_6 r B ts i w hC h0 h1 h2 h3 h4 h5 (fun u h => soc_of f hE hF r B ts i u h hP)
end Go.Proofs.YtnnppenlfocgiaaGreatDoor
