/- The program's reader: programs. The program's reader: a function. The document's reader: what stands first, whole; expressions, by what is at hand. -/
import Derived.Test.YtbofdfdmikhanaaGreatDoorJ33
import Derived.Test.YtbofdfdmikhanaaGreatDoorJ31
import Derived.Test.YtbofdfdmikhanaaGreatDoorJ30
namespace Go.Proofs.YtbofdfdmikhanaaGreatDoor
open Go.RowKit
open Go

def FunC (f : Nat) : Prop := ∀ (r : PRes) (B : Nat) (ts : List Tok) (i : Nat) (w : World), Ctx w B ts i → P f 10 nil0 0 (rest ts i) = some r → Calls Tryz.prog 64 #[.pointer (some ⟨B, 0, none⟩)] w (PAns no w B ts r)
/-- Between two of a row. -/
def UniI (f : Nat) (w : World) (B : Nat) (ts : List Tok) (r : PRes) (k : Nat) (wr : World) : Prop :=
  ∃ (ks : List Nd) (j : Nat) (b : Option Addr) (cap : Nat), wr.heap[w.heap.size + 1]? = some (nbx (nd 1 ks) b cap) ∧ wr.heap[w.heap.size]? = some zbx ∧
    Row (fun g => w.heap.size ≤ g ∧ g ≠ w.heap.size ∧ g ≠ w.heap.size + 1) wr (.slice b ks.length cap) ks ∧ (∀ q, Value.ownBlock (.slice b ks.length cap) = some q → w.heap.size ≤ q) ∧ Rd wr B ts j ∧ Keeps (fun k => k = B) w wr ∧ ks.length + k ≤ f ∧ P k 12 (nd 1 ks) 0 (rest ts j) = some r
theorem res27 {tm : Array Value} {W : World} {B : Nat} {a b c d : Value} (h : tm[2]?.getD undef = .pointer (some ⟨B, 0, none⟩)) (hx : W.heap[B]? = some (.cells #[a, b, c, d] 24)) : (results Tryz.f27 tm).run Tryz.prog W = .ok (.agg #[a, b, c, d]) W := by
  obtain ⟨c0, c1, c2, c3, _, _, _, _⟩ := in4 hx
  simp [results, Tryz.results27, go_sem, h, c0, c1, c2, c3]
set_option maxRecDepth 20000 in
set_option maxHeartbeats 4000000 in
theorem unit_of (f : Nat) (hf : f ≤ 100000) (hE : ∀ g, g < f → FunC g) (r : PRes) (B : Nat) (ts : List Tok) (i : Nat) (w : World) (hC : Ctx w B ts i) (hP : P f 12 (nd 1 []) 0 (rest ts i) = some r) : Calls Tryz.prog 27 #[.pointer (some ⟨B, 0, none⟩)] w (PAns no w B ts r) := by
  obtain ⟨i0, hi0, hz0, hz1, hz2⟩ := info_parts info24
  obtain ⟨h4, h3⟩ := new2 w zbx (nbx (nd 1 []) none 0)
  have hBw := hC.R.lt
  have hb0 := below2 w zbx (nbx (nd 1 []) none 0)
  have hI : UniI f w B ts r f ((w.alloc zbx).alloc (nbx (nd 1 []) none 0)) := ⟨[], i, none, 0, h3, h4, Row.nil _ _, fun q e => by simp [Value.ownBlock] at e, hC.R.below hb0, Keeps.of_below hb0, by simp, hP⟩
  clear hP h4 h3 hb0
  go_enter Tryz.func27, Tryz.ntmps27
  go_wp2
  go_loopg [14] f (fun k _ wr => UniI f w B ts r k wr)
  case atStart => exact hI
  case round =>
    clear hI
    obtain ⟨ks, j, b', cap', p3, p4, hRow, hown, hR, hk, hgf, hr⟩ := hrel
    have hCr := hC.on hR
    have hz4 := block_lt p3
    cases gk with
    | zero => cases hr
    | succ g =>
      rw [P] at hr
      obtain ⟨m1, m2, m3, m4, m5, bb, capb, h1, _⟩ := hR.box
      obtain ⟨_, _, _, _, _, a5, a6, _⟩ := rdC h1
      clear h1
      have hjle := hR.le
      have hshort := hR.short
      obtain ⟨N, hNl⟩ : ∃ N, ts.length = N := ⟨_, rfl⟩
      rw [hNl] at a5
      by_cases hy : rest ts j = []
      · -- the end
        rw [if_pos hy] at hr
        replace hr : Hid _ := hr
        have hN := hRow.node 1 [] 0
        have hlt : ¬ (j : Int) < (N : Int) := by
          have := rest_len ts j
          rw [hy] at this
          simp at this
          omega
        obtain ⟨c0, c1, c2, c3, f0, f1, f2, f3⟩ := in4 p3
        obtain ⟨d0, d1, d2, d3, e0, e1, e2, e3⟩ := in4 p4
        go_wp2
        go_quiet (fail)
        go_wp2
        have hb4 : Below wr.heap.size wr (wr.drewN nq) := drewN_below (Below.refl _ _)
        have q4 := drewN_heap (n := nq) p4
        refine bodyPost_ret (res27 rfl (put4_same _ _ _ _ q4)) rfl ?_
        obtain rfl := Option.some.inj hr.out
        exact close_ret (N := nd 1 ks) rfl ((hN.below hb4).weak (fun g hg _ => ⟨.inr hg.1, hg.2.1⟩)) (hR.below hb4) (hk.trans (Keeps.of_below hb4)) (Nat.le_refl _) hBw
      · rw [if_neg hy] at hr
        have hc1 := fun u (h : Ctx u B ts j) => callU hr (fun r0 h0 => hE g (by omega) r0 B ts j u h h0)
        have hn1 : ks.length + 1 ≤ maxLen := by unfold maxLen; omega
        have hb1 : (ks.length + 1) * 56 ≤ 140737488355328 := by omega
        clear hr hE
        have hlt : (j : Int) < (N : Int) := by
          have := rest_len ts j
          rcases Nat.lt_or_ge j ts.length with h' | h'
          · omega
          · exact absurd (rest_end h') hy
        go_wp2
        go_quiet (fail)
        have hb4 : Below wr.heap.size wr (wr.drewN nq) := drewN_below (Below.refl _ _)
        obtain ⟨w4, hw4⟩ : ∃ w4, wr.drewN nq = w4 := ⟨_, rfl⟩
        rw [hw4] at hb4 ⊢
        clear hw4 a5 a6
        refine Lib.hid ?_
        go_wp2
        have p3' := block_below hb4 p3
        have p4' := block_below hb4 p4
        have hRow4 := hRow.below hb4
        have hC4 := hCr.below hb4
        have hk4 := hk.trans (Keeps.of_below hb4)
        have hz5 := block_lt p3'
        obtain ⟨_, _, _, hform⟩ := hRow4.form
        replace hform : Hid _ := hform
        replace hown : Hid _ := hown
        clear hRow p3 p4 hR hk
        obtain ⟨c0, c1, c2, c3, f0, f1, f2, f3⟩ := in4 p3'
        go_region_law (first
          | (refine step_append_lies _ (by rfl) _ _ _ (by rfl) 0 24 i0 _ 4 56 Tryz.underlying22 hi0 hz0 hz1 hz2 rfl (by omega) (.slice b' ks.length cap') ks.length _ (by rfl) ho ⟨w2.heap.size, 0, none⟩ 1 1 _ (by rfl) (by rfl) (cells_of n1 b1 cap1 (alloc_new w2 (nbx n1 b1 cap1))) (by simp [Value.oneCell']) (by omega) hn1 hb1 (Nat.zero_le _) _ rfl ?_; intro g3 cap3 w3 hown3 hgrow hat hlt3; have p3w := (hgrow.block _ (block_lt q3) hne3).trans q3; obtain ⟨c0, c1, c2, c3, f0, f1, f2, f3⟩ := in4 p3w)
          | (go_simp; go_at_call 64; refine (hc1 _ (hC4.below ((Below.refl _ _).drew))).mono ?_; rintro e w2 (⟨j2, rfl, hle, rfl, hk2⟩ | ⟨n1, j2, b1, cap1, hP2, rfl, hN1, hR2, hk2'⟩); (exact ⟨rfl, close_pan rfl hle ((hk4.drew).trans hk2)⟩); have hk2 := ((Keeps.refl (fun k => k = B) w4).drew).trans hk2'; clear hk2'; have pw3 := hk2.box p3' (by omega); have q3 := block_alloc (nbx n1 b1 cap1) pw3; have q4 := block_alloc (nbx n1 b1 cap1) (hk2.box p4' (by omega)); obtain ⟨c0, c1, c2, c3, f0, f1, f2, f3⟩ := in4 pw3; obtain ⟨d0, d1, d2, d3, e0, e1, e2, e3⟩ := in4a pw3; obtain ⟨xs, ho, hs, hn⟩ := ((hRow4.keep hk2 (fun g hg _ => by omega)).below (ext_alloc (Below.refl _ _) (nbx n1 b1 cap1))).own; have hne3 : some (w.heap.size + 1) ≠ Value.ownBlock (.slice b' ks.length cap') := fun e => (hs _ e.symm).2.2 rfl))
        all_goals
          go_wp2
          go_roundg g
          case measure => omega
          case rel =>
            have hb2a := ext_alloc (Below.refl w2.heap.size w2) (nbx n1 b1 cap1)
            have hz2 := hk2.size
            have hy2 : NdV (fun q => (w.heap.size ≤ q ∧ q ≠ w.heap.size ∧ q ≠ w.heap.size + 1) ∧ some q ≠ Value.ownBlock (.slice b' ks.length cap')) (w2.alloc (nbx n1 b1 cap1)) n1 (ndv n1 b1 cap1) := (hN1.weak (fun q hq _ => by simp at hq; exact ⟨⟨by omega, by omega, by omega⟩, fun e => by have := (hform.out q e.symm).2; omega⟩)).below hb2a
            obtain ⟨hRow5, r3, hk5, hown5⟩ := kids_step (lo := w.heap.size) ho hs hn hy2 (fun q hq => hq.2.2) (fun q hq => by simp at hq; exact ⟨by omega, by omega, by omega⟩) hown.out (by simp; omega) q3 hown3 hgrow hat rfl
            exact ⟨ks ++ [n1], j2, _, _, r3, hk5.box q4 (fun e => by rcases e with e | e; omega; exact (hs _ e.symm).2.1 rfl), hRow5, hown5, (hR2.below hb2a).keep hk5 (fun q hq e => by rcases e with e | e; omega; have := hown.out q e.symm; omega), ((hk4.trans hk2).trans (Keeps.of_below hb2a)).then hk5 (fun q hq e => by rcases e with e | e; omega; have := hown.out q e.symm; omega), by simp; omega, hP2⟩
end Go.Proofs.YtbofdfdmikhanaaGreatDoor
namespace Go.Proofs.YtbofdfdmikhanaaGreatDoor
open Go.RowKit
open Go

theorem res64 {tm : Array Value} {W : World} {B : Nat} {a b c d : Value} (h : tm[2]?.getD undef = .pointer (some ⟨B, 0, none⟩)) (hx : W.heap[B]? = some (.cells #[a, b, c, d] 24)) : (results Tryz.f64 tm).run Tryz.prog W = .ok (.agg #[a, b, c, d]) W := by
  obtain ⟨c0, c1, c2, c3, _, _, _, _⟩ := in4 hx
  simp [results, Tryz.results64, go_sem, h, c0, c1, c2, c3]
theorem pl_function : plainS W.function_ := ⟨_, _, rfl, rfl⟩
theorem needName_on {l : List PT} {h : List UInt8 → List PT → PR} {g : Nd → List PT → PR} : (needName l h).on g = needName l (fun s l => (h s l).on g) := by
  unfold needName
  split
  · rfl
  · rfl
/-- A function's end. -/
def funE (f : Nat) (s : List UInt8) (ks : List Nd) (l : List PT) : PR := (P f 7 (nd 4 []) 0 l).on fun b l => need W.end_ l fun l => .ok ⟨2, s, 0, ks ++ [b]⟩ l
/-- Between two parameters. -/
def ParI (f t : Nat) (s : List UInt8) (w : World) (B : Nat) (ts : List Tok) (r : PRes) (k : Nat) (m : Value) (wr : World) : Prop :=
  ∃ (more : Bool) (ks : List Nd) (j : Nat) (b : Option Addr) (cap : Nat), m = .bool more ∧ wr.heap[t]? = some (nbx ⟨2, s, 0, ks⟩ b cap) ∧ wr.heap[w.heap.size]? = some zbx ∧
    Row (fun g => w.heap.size < g ∧ g ≠ t) wr (.slice b ks.length cap) ks ∧ (∀ q, Value.ownBlock (.slice b ks.length cap) = some q → w.heap.size < q) ∧ Rd wr B ts j ∧ Keeps (fun k => k = B) w wr ∧ ks.length ≤ j ∧
    (if more then k ≤ f ∧ (P k 11 ⟨2, s, 0, ks⟩ 0 (rest ts j)).on (fun n l => need S.rp l fun l => funE f s n.kids l) = some r else need S.rp (rest ts j) (fun l => funE f s ks l) = some r)

set_option maxRecDepth 20000 in
set_option maxHeartbeats 4000000 in
theorem fun_of (f : Nat) (hB : BlkC f) : FunC (f + 1) := by
  intro r B ts i w hC hP
  rw [P] at hP
  obtain ⟨i0, hi0, hz0, hz1, hz2⟩ := info_parts info24
  have hBw := hC.R.lt
  have hb0 : Below w.heap.size w (w.alloc zbx) := ext_alloc (Below.refl _ _) _
  have h2 := alloc_new w zbx
  have hk0 : Keeps (fun k => k = B) w (w.alloc zbx) := Keeps.of_below hb0
  have hc1 := hC.wantsU pl_function hP _ hb0
  rw [World.size_alloc] at hc1
  clear hP
  go_enter Tryz.func64, Tryz.ntmps64
  go_wp2_with (first
    | (go_at_call 93; refine hc1.mono ?_; rintro e w2 (⟨rfl, hle, rfl, hk2⟩ | ⟨hP2, rfl, hR2, hk2⟩); (exact ⟨rfl, close_pan rfl hle (hk0.trans hk2)⟩); (try dsimp only at hP2); have hk2' := hk0.trans hk2; have g2 := hk2.box h2 (by omega))
    | (go_at_call 94; refine ((hC.on hR2).nameU hP2 _ (Below.refl _ _)).mono ?_; rintro e w3 (⟨rfl, hle, rfl, hk3⟩ | ⟨s, hP3, rfl, hR3, hk3⟩); (exact ⟨rfl, close_pan rfl hle (hk2'.trans hk3)⟩); (try dsimp only at hP3); have hk3' := hk2'.trans hk3; have g3 := hk3.box g2 (by omega); refine Hid.out ?_))
  have hzw := block_lt g2
  have hz3 := hk3.size
  have hb3 : Below w3.heap.size w3 (w3.alloc (nbx ⟨2, s, 0, []⟩ none 0)) := ext_alloc (Below.refl _ _) _
  have q4 := alloc_new w3 (nbx ⟨2, s, 0, []⟩ none 0)
  have g3' := block_below hb3 g3
  have hk4 := hk3'.trans (Keeps.of_below hb3)
  have hW4 := (hC.on hR3).wantsU pl_lp hP3 _ hb3
  rw [World.size_alloc] at hW4
  obtain ⟨t3, ht3⟩ : ∃ t3, w3.heap.size = t3 := ⟨_, rfl⟩
  clear hc1 hP2 hP3 hR2 hk2 hk2' h2 hk3 hk3'
  rw [ht3] at hW4 q4 hz3
  refine Lib.hid ?_
  go_wp2_with (go_at_call 93; refine hW4.mono ?_; rintro e w5 (⟨rfl, hle, rfl, hk5⟩ | ⟨hP5, rfl, hR5, hk5⟩); (exact ⟨rfl, close_pan rfl hle (hk4.trans hk5)⟩); (try dsimp only at hP5); have hk5' := hk4.trans hk5; have p3 := hk5.box q4 (by omega); have p2 := hk5.box g3' (by omega); refine Hid.out ?_)
  have hC5 := hC.on hR5
  have hSee := hC5.sees1 pl_rp w5 (Below.refl _ _)
  have hlen : ∃ more : Bool, decide (tx (rest ts (i + 1 + 1 + 1)) = S.rp) = !more ∧ (if more then f ≤ f ∧ (P f 11 ⟨2, s, 0, []⟩ 0 (rest ts (i + 1 + 1 + 1))).on (fun n l => need S.rp l fun l => funE f s n.kids l) = some r else need S.rp (rest ts (i + 1 + 1 + 1)) (fun l => funE f s [] l) = some r) := by
    by_cases hy : tx (rest ts (i + 1 + 1 + 1)) = S.rp
    · refine ⟨false, by simp [hy], ?_⟩
      rw [if_pos hy] at hP5
      rw [if_neg (by decide)]
      unfold need
      rw [if_pos hy]
      exact hP5
    · refine ⟨true, by simp [hy], ?_⟩
      rw [if_neg hy] at hP5
      rw [if_pos rfl]
      exact ⟨Nat.le_refl _, hP5⟩
  obtain ⟨more, hm1, hm2⟩ := hlen
  rw [hm1] at hSee
  replace hm2 : Hid _ := hm2
  have hz5 := block_lt p3
  clear hP5 hm1 ht3 hW4 hk5 hk4 q4 g3' g3 g2 hR3 hb3
  refine Lib.hid ?_
  go_wp2_with (go_at_call 95; refine hSee.mono ?_; rintro e w6 ⟨rfl, hb6⟩)
  have hI : ParI f t3 s w B ts r f (.bool more) w6 := ⟨more, [], i + 1 + 1 + 1, none, 0, rfl, block_below hb6 p3, block_below hb6 p2, Row.nil _ _, fun q e => by simp [Value.ownBlock] at e, hR5.below hb6, hk5'.trans (Keeps.of_below hb6), by simp, hm2.out⟩
  have hwt : w.heap.size < t3 := by omega
  clear p3 p2 hR5 hk5' hC5 hSee hm2 hb6 hz5 hz3 hzw
  go_loopg [4] f (fun k m wr => ParI f t3 s w B ts r k m wr)
  case atStart => exact hI
  case round =>
    obtain ⟨more1, ks, j, b', cap', rfl, p3, p4, hRow, hown, hR, hk, hkl, hr⟩ := hrel
    clear hI
    have hCr := hC.on hR
    have hz4 := block_lt p4
    have hjl := hR.le
    have hsh := hR.short
    have hn1 : ks.length + 1 ≤ maxLen := by unfold maxLen; omega
    have hb1 : (ks.length + 1) * 56 ≤ 140737488355328 := by omega
    cases more1 with
    | false =>
      rw [if_neg (by decide)] at hr
      have hWt := hCr.wantsU pl_rp hr wr (Below.refl _ _)
      clear hr
      go_wp2_with (go_at_call 93; refine hWt.mono ?_; rintro e w4 (⟨rfl, hle, rfl, hk4⟩ | ⟨hr4, rfl, hR4, hk4⟩); (exact ⟨rfl, close_pan rfl hle (hk.trans hk4)⟩); refine Hid.out ?_)
      unfold funE at hr4
      have p3' := hk4.box p3 (by omega)
      have p4' := hk4.box p4 (by omega)
      have hRow' := hRow.keep hk4 (fun q hq _ => by omega)
      have hk' := hk.trans hk4
      have hEE := fun u (h : Ctx u B ts (j + 1)) => callU hr4 (fun r0 h0 => hB r0 B ts _ u h h0)
      have hCr' := hC.on hR4
      obtain ⟨c0, c1, c2, c3, f0, f1, f2, f3⟩ := in4 p3'
      have hz4' := block_lt p4'
      clear hWt hr4 hCr p3 p4 hRow hk hk4 hR hB
      refine Lib.hid ?_
      go_wp2
      go_region_law (first
            | (refine step_append_lies _ (by rfl) _ _ _ (by rfl) 0 24 i0 _ 4 56 Tryz.underlying22 hi0 hz0 hz1 hz2 rfl (by omega) (.slice b' ks.length cap') ks.length _ (by rfl) ho ⟨w2.heap.size, 0, none⟩ 1 1 _ (by rfl) (by rfl) (cells_of n1 b1 cap1 (alloc_new w2 (nbx n1 b1 cap1))) (by simp [Value.oneCell']) (by omega) hn1 hb1 (Nat.zero_le _) _ rfl ?_; intro g3 cap3 w3 hown3 hgrow hat hlt3; have p3w := (hgrow.block _ (block_lt p3) hne3).trans p3; obtain ⟨c0, c1, c2, c3, f0, f1, f2, f3⟩ := in4 p3w)
            | (go_simp; go_at_call 97; refine (hEE _ (hCr'.below ((Below.refl _ _).drew))).mono ?_; rintro e w2 (⟨j1, rfl, hle, rfl, hk2⟩ | ⟨n1, j2, b1, cap1, hr2, rfl, hN1, hR2, hk2'⟩); (exact ⟨rfl, close_pan rfl hle ((hk'.drew).trans hk2)⟩); have hk2 := ((Keeps.refl (fun k => k = B) w4).drew).trans hk2'; clear hk2'; have pw3 := hk2.box p3' (by omega); have p3 := block_alloc (nbx n1 b1 cap1) pw3; have p4 := block_alloc (nbx n1 b1 cap1) (hk2.box p4' (by omega)); obtain ⟨c0, c1, c2, c3, f0, f1, f2, f3⟩ := in4 pw3; obtain ⟨d0, d1, d2, d3, e0, e1, e2, e3⟩ := in4a pw3; obtain ⟨xs, ho, hs, hn⟩ := ((hRow'.keep hk2 (fun g hg _ => by omega)).below (ext_alloc (Below.refl _ _) (nbx n1 b1 cap1))).own; have hne3 : some t3 ≠ Value.ownBlock (.slice b' ks.length cap') := fun e => (hs _ e.symm).2 rfl))
      all_goals
        clear c0 c1 c2 c3 f0 f1 f2 f3 d0 d1 d2 d3 e0 e1 e2 e3 hEE p3w pw3
        have hb2a := ext_alloc (Below.refl w2.heap.size w2) (nbx n1 b1 cap1)
        obtain ⟨_, _, _, hlt9⟩ := hRow'.form
        have hz2 : w4.heap.size ≤ w2.heap.size := hk2.size
        have hz3 := block_lt p3'
        have hy : NdV (fun q => (w.heap.size < q ∧ q ≠ t3) ∧ some q ≠ Value.ownBlock (.slice b' ks.length cap')) (w2.alloc (nbx n1 b1 cap1)) n1 (ndv n1 b1 cap1) := (hN1.weak (fun q hq _ => by simp at hq; exact ⟨⟨by omega, by omega⟩, fun e => by have := (hlt9 q e.symm).2; omega⟩)).below hb2a
        obtain ⟨W4, hW4⟩ : ∃ W4, w3.setCell ⟨t3, 3, none⟩ (.slice (some ⟨g3, 0, none⟩) (ks.length + 1) cap3) = W4 := ⟨_, rfl⟩
        obtain ⟨hRow5, q3, hk5, hown5⟩ := kids_step (lo := w.heap.size + 1) ho hs hn hy (fun q hq => hq.2) (fun q hq => by simp at hq; exact ⟨by omega, by omega⟩) (fun q e => hown q e) (by simp; omega) p3 hown3 hgrow hat hW4
        have q4 := hk5.box p4 (fun e => by rcases e with e | e; omega; have := (hs _ e.symm).1; omega)
        have hR5 := (hR2.below hb2a).keep hk5 (fun q hq e => by rcases e with e | e; omega; have := hown q e.symm; omega)
        have hkw5 := ((hk'.trans hk2).trans (Keeps.of_below hb2a)).then hk5 (fun q hq e => by rcases e with e | e; omega; have := hown q e.symm; omega)
        have hW8 := (hC.on hR5).wantsU pl_end hr2 W4 (Below.refl _ _)
        have hNN := hRow5.node 2 s 0
        clear hown3 hgrow hat hlt3 ho hs hn hy hk5 p3 p4 hRow' hR2 hN1 hk2 hb2a hown hr2
        refine Lib.hid ?_
        go_wp2_with (go_at_call 93; refine hW8.mono ?_; rintro e w8 (⟨rfl, hle, rfl, hk8⟩ | ⟨hP8, rfl, hR8, hk8⟩); (exact ⟨rfl, close_pan rfl hle (hkw5.trans hk8)⟩); have u3 := hk8.box q3 (by omega); have u4 := hk8.box q4 (by omega); obtain ⟨c0, c1, c2, c3, f0, f1, f2, f3⟩ := in4 u3; obtain ⟨d0, d1, d2, d3, e0, e1, e2, e3⟩ := in4 u4)
        obtain rfl := Option.some.inj hP8
        refine bodyPost_ret (res64 rfl (put4_same _ _ _ _ u4)) rfl ?_
        rw [show ks.length + 1 = (ks ++ [n1]).length by simp]
        exact close_ret (N := ⟨2, s, 0, ks ++ [n1]⟩) rfl ((hNN.keep hk8 (fun q hq _ => by omega)).weak (fun q hq _ => ⟨.inr (by omega), by omega⟩)) hR8 (hkw5.trans hk8) (Nat.le_refl _) hBw
    | true =>
      rw [if_pos rfl] at hr
      obtain ⟨hgf, hr⟩ := hr
      obtain ⟨c0, c1, c2, c3, f0, f1, f2, f3⟩ := in4 p3
      cases gk with
      | zero => cases hr
      | succ g =>
        rw [P, needName_on] at hr
        have hEE := fun u (h : Ctx u B ts j) => h.nameU hr u (Below.refl _ _)
        clear hr hB
        go_wp2
        go_region_law (first
            | (refine step_append_lies _ (by rfl) _ _ _ (by rfl) 0 24 i0 _ 4 56 Tryz.underlying22 hi0 hz0 hz1 hz2 rfl (by omega) (.slice b' ks.length cap') ks.length _ (by rfl) ho ⟨w2.heap.size, 0, none⟩ 1 1 _ (by rfl) (by rfl) (cells_of ⟨3, s1, 0, []⟩ none 0 (alloc_new w2 (nbx ⟨3, s1, 0, []⟩ none 0))) (by simp [Value.oneCell']) (by omega) hn1 hb1 (Nat.zero_le _) _ rfl ?_; intro g3 cap3 w3 hown3 hgrow hat hlt3; have p3w := (hgrow.block _ (block_lt p3) hne3).trans p3; obtain ⟨c0, c1, c2, c3, f0, f1, f2, f3⟩ := in4 p3w)
            | (go_simp; go_at_call 94; refine (hEE _ (hCr.below ((Below.refl _ _).drew))).mono ?_; rintro e w2 (⟨rfl, hle, rfl, hk2⟩ | ⟨s1, hr2, rfl, hR2, hk2'⟩); (exact ⟨rfl, close_pan rfl hle ((hk.drew).trans hk2)⟩); have hk2 := ((Keeps.refl (fun k => k = B) wr).drew).trans hk2'; clear hk2'; have pw3 := hk2.box p3 (by omega); have p3 := block_alloc (nbx ⟨3, s1, 0, []⟩ none 0) pw3; have p4 := block_alloc (nbx ⟨3, s1, 0, []⟩ none 0) (hk2.box p4 (by omega)); obtain ⟨c0, c1, c2, c3, f0, f1, f2, f3⟩ := in4 pw3; obtain ⟨d0, d1, d2, d3, e0, e1, e2, e3⟩ := in4a pw3; obtain ⟨xs, ho, hs, hn⟩ := ((hRow.keep hk2 (fun g hg _ => by omega)).below (ext_alloc (Below.refl _ _) (nbx ⟨3, s1, 0, []⟩ none 0))).own; have hne3 : some t3 ≠ Value.ownBlock (.slice b' ks.length cap') := fun e => (hs _ e.symm).2 rfl))
        all_goals
          clear c0 c1 c2 c3 f0 f1 f2 f3 d0 d1 d2 d3 e0 e1 e2 e3 hEE p3w pw3
          have hb2a := ext_alloc (Below.refl w2.heap.size w2) (nbx ⟨3, s1, 0, []⟩ none 0)
          obtain ⟨_, _, _, hlt9⟩ := hRow.form
          have hz2 : wr.heap.size ≤ w2.heap.size := hk2.size
          have hy : NdV (fun q => (w.heap.size < q ∧ q ≠ t3) ∧ some q ≠ Value.ownBlock (.slice b' ks.length cap')) (w2.alloc (nbx ⟨3, s1, 0, []⟩ none 0)) ⟨3, s1, 0, []⟩ (ndv ⟨3, s1, 0, []⟩ none 0) := ndV_leaf _ _ 3 s1 0
          obtain ⟨W4, hW4⟩ : ∃ W4, w3.setCell ⟨t3, 3, none⟩ (.slice (some ⟨g3, 0, none⟩) (ks.length + 1) cap3) = W4 := ⟨_, rfl⟩
          have hz9 := block_lt p3
          obtain ⟨hRow5, q3, hk5, hown5⟩ := kids_step (lo := w.heap.size + 1) ho hs hn hy (fun q hq => hq.2) (fun q hq => ⟨by simp at hq; omega, by omega⟩) (fun q e => hown q e) (by simp; omega) p3 hown3 hgrow hat hW4
          have q4 := hk5.box p4 (fun e => by rcases e with e | e; omega; have := (hs _ e.symm).1; omega)
          have hR5 := (hR2.below hb2a).keep hk5 (fun q hq e => by rcases e with e | e; omega; have := hown q e.symm; omega)
          have hkw5 := ((hk.trans hk2).trans (Keeps.of_below hb2a)).then hk5 (fun q hq e => by rcases e with e | e; omega; have := hown q e.symm; omega)
          have hC5 := hC.on hR5
          clear hown3 hgrow hat hlt3 ho hs hn hy hk5 p3 p4 hRow hR2 hk2 hb2a hown
          refine Lib.hid ?_
          dsimp only at hr2
          by_cases hcm : tx (rest ts (j + 1)) = S.cm
          · rw [if_pos hcm, rest_tail] at hr2
            replace hr2 : Hid _ := hr2
            have hT5 := hC5.takes_yes pl_cm hcm W4 (Below.refl _ _)
            go_wp2_with (go_at_call 96; refine hT5.mono ?_; rintro e w6 ⟨rfl, hR6, hk6⟩)
            go_roundg g
            case measure => omega
            case rel => exact ⟨true, ks ++ [⟨3, s1, 0, []⟩], j + 1 + 1, _, _, rfl, hk6.box q3 (by omega), hk6.box q4 (by omega), hRow5.keep hk6 (fun q hq _ => by omega), hown5, hR6, hkw5.trans hk6, by simp; omega, by rw [if_pos rfl]; exact ⟨by omega, hr2.out⟩⟩
          · rw [if_neg hcm] at hr2
            replace hr2 : Hid _ := hr2
            have hT5 := hC5.takes_no pl_cm hcm W4 (Below.refl _ _)
            go_wp2_with (go_at_call 96; refine hT5.mono ?_; rintro e w6 ⟨rfl, hb6⟩)
            go_roundg g
            case measure => omega
            case rel => exact ⟨false, ks ++ [⟨3, s1, 0, []⟩], j + 1, _, _, rfl, block_below hb6 q3, block_below hb6 q4, hRow5.below hb6, hown5, hR5.below hb6, hkw5.trans (Keeps.of_below hb6), by simp; omega, by rw [if_neg (by decide)]; exact hr2.out⟩
end Go.Proofs.YtbofdfdmikhanaaGreatDoor
namespace Go.Proofs.YtbofdfdmikhanaaGreatDoor
open Go.RowKit
open Go

theorem first_of (f : Nat) (hE : DRow f) : DFst (f + 1) := by
  intro r Fin g B ts i w hF hR hP
  cases hx : ts[i]? with
  | none =>
    have hl := List.getElem?_eq_none_iff.1 hx
    have hle := hR.le
    rw [rest_end hl, P] at hP
    refine fst_end B ts i (by omega) r Fin g w hR (hF.2 i hle ?_)
    rw [rest_end hl]
    exact (Option.some.inj hP).symm
  | some x =>
    obtain ⟨k, t, a⟩ := x
    have hre := rest_cons hx
    have hv : valid (k, t) := hF.1 (k, t) (List.mem_map.2 ⟨_, List.mem_of_getElem? hx, rfl⟩)
    rw [hre, P] at hP
    simp only [pt] at hP hre
    rw [← hre] at hP
    rw [ite_on] at hP
    by_cases h2 : k = 2
    · subst h2
      rw [if_pos rfl] at hP
      exact fst_num B ts i t a hx r Fin g w hF hR hv hP
    rw [if_neg h2, ite_on] at hP
    by_cases h3 : k = 3
    · subst h3
      rw [if_pos rfl] at hP
      exact fst_text B ts i t a hx r Fin g w hF hR hP
    rw [if_neg h3, ite_on] at hP
    have q2 : (k == 2) = false := by simpa using h2
    have q3 : (k == 3) = false := by simpa using h3
    by_cases a1 : tx (rest ts i) = S.lp
    · rw [if_pos a1] at hP
      simp only [on_on, need_on, ok_on] at hP
      exact fst_lp k f hE B ts i t a hx r Fin g w hF hR q2 q3 a1 hP
    rw [if_neg a1, ite_on] at hP
    by_cases a2 : tx (rest ts i) = W.nil_
    · rw [if_pos a2] at hP
      exact fst_nil k B ts i t a hx r Fin g w hF hR q2 q3 a1 a2 hP
    rw [if_neg a2, ite_on] at hP
    by_cases a3 : tx (rest ts i) = W.true_
    · rw [if_pos a3] at hP
      exact fst_true k B ts i t a hx r Fin g w hF hR q2 q3 a1 a2 a3 hP
    rw [if_neg a3, ite_on] at hP
    by_cases a4 : tx (rest ts i) = W.false_
    · rw [if_pos a4] at hP
      exact fst_false k B ts i t a hx r Fin g w hF hR q2 q3 a1 a2 a3 a4 hP
    rw [if_neg a4, ite_on] at hP
    by_cases a5 : tx (rest ts i) = S.lc
    · rw [if_pos a5, need_on] at hP
      exact fst_lc k B ts i t a hx r Fin g w hF hR q2 q3 a1 a2 a3 a4 a5 hP
    rw [if_neg a5, ite_on] at hP
    by_cases a6 : tx (rest ts i) = W.next_
    · rw [if_pos a6] at hP
      simp only [on_on, need_on, ok_on] at hP
      exact fst_next k f hE B ts i t a hx r Fin g w hF hR q2 q3 a1 a2 a3 a4 a5 a6 hP
    rw [if_neg a6, needName_on] at hP
    exact fst_name k B ts i t a hx r Fin g w hF hR q2 q3 a1 a2 a3 a4 a5 a6 hP
structure DExp (f : Nat) : Prop where
  row : DRow f
  un : DUn f
  fst : DFst f
  beh : DBeh f
theorem dexp_zero : DExp 0 where
  row := fun _ _ _ _ _ _ _ _ _ _ _ h => by cases h
  un := fun _ _ _ _ _ _ _ _ _ h => by cases h
  fst := fun _ _ _ _ _ _ _ _ _ h => by cases h
  beh := fun _ _ _ _ _ _ _ _ _ _ _ _ _ _ _ h => by cases h
theorem dexp_of (f : Nat) : f ≤ 90000 → ∀ k, k ≤ f → DExp k := by
  induction f with
  | zero =>
    intro _ k hk
    obtain rfl : k = 0 := by omega
    exact dexp_zero
  | succ f ih =>
    intro hf k hk
    rcases Nat.lt_or_ge f k with h | h
    · obtain rfl : k = f + 1 := by omega
      have A := fun k hk => ih (by omega) k hk
      have Af := A f (Nat.le_refl _)
      exact ⟨bound_of f (fun k hk => (A k hk).row) Af.un, unary_of f Af.un Af.fst (fun k hk => (A k (by omega)).beh), first_of f Af.row, behind_of f (by omega) (fun k hk => (A k hk).row)⟩
    · exact ih (by omega) k h
end Go.Proofs.YtbofdfdmikhanaaGreatDoor
