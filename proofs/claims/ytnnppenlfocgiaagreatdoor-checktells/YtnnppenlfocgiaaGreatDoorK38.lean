/- The program's reader: programs. The program's reader: a function. The program's reader: all of it, by what is at hand. The program's reader: tokens are read, or it tells where they are wrong. What Parse answers, in plain words; tokens that were scanned, in memory. The program's checker: what is thrown is caught; a program is gone over. -/
import Derived.Test.YtnnppenlfocgiaaGreatDoorK31
import Derived.Test.YtnnppenlfocgiaaGreatDoorK34
import Derived.Test.YtnnppenlfocgiaaGreatDoorK15
import Derived.Test.YtnnppenlfocgiaaGreatDoorK16
import Derived.Test.YtnnppenlfocgiaaGreatDoorK14
import Derived.Test.YtnnppenlfocgiaaGreatDoorK17
import Derived.Test.YtnnppenlfocgiaaGreatDoorK35
namespace Go.Proofs.YtnnppenlfocgiaaGreatDoor
open Go.RowKit
open Go

def FunC (f : Nat) : Prop := ∀ (r : PRes) (B : Nat) (ts : List Tok) (i : Nat) (w : World), Ctx w B ts i → P f 10 nil0 0 (rest ts i) = some r → Calls Tryz.prog 64 #[.pointer (some ⟨B, 0, none⟩)] w (PAns no w B ts r)
/-- Between two of a row. -/
def UniI (f : Nat) (w : World) (B : Nat) (ts : List Tok) (r : PRes) (k : Nat) (wr : World) : Prop :=
  ∃ (ks : List Nd) (j : Nat) (b : Option Addr) (cap : Nat), wr.heap[w.heap.size + 1]? = some (nbx (nd 1 ks) b cap) ∧ wr.heap[w.heap.size]? = some zbx ∧
    Row (fun g => w.heap.size ≤ g ∧ g ≠ w.heap.size ∧ g ≠ w.heap.size + 1) wr (.slice b ks.length cap) ks ∧ (∀ q, Value.ownBlock (.slice b ks.length cap) = some q → w.heap.size ≤ q) ∧ Rd wr B ts j ∧ Keeps (fun k => k = B) w wr ∧ ks.length + k ≤ f ∧ P k 12 (nd 1 ks) 0 (rest ts j) = some r
theorem res27 {tm : Array Value} {W : World} {B : Nat} {a b c d : Value} (h : tm[2]?.getD undef = .pointer (some ⟨B, 0, none⟩)) (hx : W.heap[B]? = some (.cells #[a, b, c, d] 24)) : (results Tryz.f40 tm).run Tryz.prog W = .ok (.agg #[a, b, c, d]) W := by
  obtain ⟨c0, c1, c2, c3, _, _, _, _⟩ := in4 hx
  simp [results, Tryz.results40, go_sem, h, c0, c1, c2, c3]
set_option maxRecDepth 20000 in
set_option maxHeartbeats 4000000 in
theorem unit_of (f : Nat) (hf : f ≤ 100000) (hE : ∀ g, g < f → FunC g) (r : PRes) (B : Nat) (ts : List Tok) (i : Nat) (w : World) (hC : Ctx w B ts i) (hP : P f 12 (nd 1 []) 0 (rest ts i) = some r) : Calls Tryz.prog 40 #[.pointer (some ⟨B, 0, none⟩)] w (PAns no w B ts r) := by
  obtain ⟨i0, hi0, hz0, hz1, hz2⟩ := info_parts info24
  obtain ⟨h4, h3⟩ := new2 w zbx (nbx (nd 1 []) none 0)
  have hBw := hC.R.lt
  have hb0 := below2 w zbx (nbx (nd 1 []) none 0)
  have hI : UniI f w B ts r f ((w.alloc zbx).alloc (nbx (nd 1 []) none 0)) := ⟨[], i, none, 0, h3, h4, Row.nil _ _, fun q e => by simp [Value.ownBlock] at e, hC.R.below hb0, Keeps.of_below hb0, by simp, hP⟩
  clear hP h4 h3 hb0
  go_enter Tryz.func40, Tryz.ntmps40
  go_wp2
  go_loopg [14] f (fun k _ wr => UniI f w B ts r k wr)
  case atStart => exact hI
  case round =>
    clear hI
    obtain ⟨ks, j, b', cap', p3, p4, hRow, hown, hR, hk, hgf, hr⟩ := hrel
    have hCr := hC.on hR
    have hz4 := block_lt p3
    cases gk with
    | zero => cases hr
    | succ g =>
      rw [P] at hr
      obtain ⟨m1, m2, m3, m4, m5, bb, capb, h1, _⟩ := hR.box
      obtain ⟨_, _, _, _, _, a5, a6, _⟩ := rdC h1
      clear h1
      have hjle := hR.le
      have hshort := hR.short
      obtain ⟨N, hNl⟩ : ∃ N, ts.length = N := ⟨_, rfl⟩
      rw [hNl] at a5
      by_cases hy : rest ts j = []
      · -- the end
        rw [if_pos hy] at hr
        replace hr : Hid _ := hr
        have hN := hRow.node 1 [] 0
        have hlt : ¬ (j : Int) < (N : Int) := by
          have := rest_len ts j
          rw [hy] at this
          simp at this
          omega
        obtain ⟨c0, c1, c2, c3, f0, f1, f2, f3⟩ := in4 p3
        obtain ⟨d0, d1, d2, d3, e0, e1, e2, e3⟩ := in4 p4
        go_wp2
        go_quiet (fail)
        go_wp2
        have hb4 : Below wr.heap.size wr (wr.drewN nq) := drewN_below (Below.refl _ _)
        have q4 := drewN_heap (n := nq) p4
        refine bodyPost_ret (res27 rfl (put4_same _ _ _ _ q4)) rfl ?_
        obtain rfl := Option.some.inj hr.out
        exact close_ret (N := nd 1 ks) rfl ((hN.below hb4).weak (fun g hg _ => ⟨.inr hg.1, hg.2.1⟩)) (hR.below hb4) (hk.trans (Keeps.of_below hb4)) (Nat.le_refl _) hBw
      · rw [if_neg hy] at hr
        have hc1 := fun u (h : Ctx u B ts j) => callU hr (fun r0 h0 => hE g (by omega) r0 B ts j u h h0)
        have hn1 : ks.length + 1 ≤ maxLen := by unfold maxLen; omega
        have hb1 : (ks.length + 1) * 56 ≤ 140737488355328 := by omega
        clear hr hE
        have hlt : (j : Int) < (N : Int) := by
          have := rest_len ts j
          rcases Nat.lt_or_ge j ts.length with h' | h'
          · omega
          · exact absurd (rest_end h') hy
        go_wp2
        go_quiet (fail)
        have hb4 : Below wr.heap.size wr (wr.drewN nq) := drewN_below (Below.refl _ _)
        obtain ⟨w4, hw4⟩ : ∃ w4, wr.drewN nq = w4 := ⟨_, rfl⟩
        rw [hw4] at hb4 ⊢
        clear hw4 a5 a6
        refine Lib.hid ?_
        go_wp2
        have p3' := block_below hb4 p3
        have p4' := block_below hb4 p4
        have hRow4 := hRow.below hb4
        have hC4 := hCr.below hb4
        have hk4 := hk.trans (Keeps.of_below hb4)
        have hz5 := block_lt p3'
        obtain ⟨_, _, _, hform⟩ := hRow4.form
        replace hform : Hid _ := hform
        replace hown : Hid _ := hown
        clear hRow p3 p4 hR hk
        obtain ⟨c0, c1, c2, c3, f0, f1, f2, f3⟩ := in4 p3'
        go_region_law (first
          | (refine step_append_lies _ (by rfl) _ _ _ (by rfl) 0 24 i0 _ 4 56 Tryz.underlying22 hi0 hz0 hz1 hz2 rfl (by omega) (.slice b' ks.length cap') ks.length _ (by rfl) ho ⟨w2.heap.size, 0, none⟩ 1 1 _ (by rfl) (by rfl) (cells_of n1 b1 cap1 (alloc_new w2 (nbx n1 b1 cap1))) (by simp [Value.oneCell']) (by omega) hn1 hb1 (Nat.zero_le _) _ rfl ?_; intro g3 cap3 w3 hown3 hgrow hat hlt3; have p3w := (hgrow.block _ (block_lt q3) hne3).trans q3; obtain ⟨c0, c1, c2, c3, f0, f1, f2, f3⟩ := in4 p3w)
          | (go_simp; go_at_call 64; refine (hc1 _ (hC4.below ((Below.refl _ _).drew))).mono ?_; rintro e w2 (⟨j2, rfl, hle, rfl, hk2⟩ | ⟨n1, j2, b1, cap1, hP2, rfl, hN1, hR2, hk2'⟩); (exact ⟨rfl, close_pan rfl hle ((hk4.drew).trans hk2)⟩); have hk2 := ((Keeps.refl (fun k => k = B) w4).drew).trans hk2'; clear hk2'; have pw3 := hk2.box p3' (by omega); have q3 := block_alloc (nbx n1 b1 cap1) pw3; have q4 := block_alloc (nbx n1 b1 cap1) (hk2.box p4' (by omega)); obtain ⟨c0, c1, c2, c3, f0, f1, f2, f3⟩ := in4 pw3; obtain ⟨d0, d1, d2, d3, e0, e1, e2, e3⟩ := in4a pw3; obtain ⟨xs, ho, hs, hn⟩ := ((hRow4.keep hk2 (fun g hg _ => by omega)).below (ext_alloc (Below.refl _ _) (nbx n1 b1 cap1))).own; have hne3 : some (w.heap.size + 1) ≠ Value.ownBlock (.slice b' ks.length cap') := fun e => (hs _ e.symm).2.2 rfl))
        all_goals
          go_wp2
          go_roundg g
          case measure => omega
          case rel =>
            have hb2a := ext_alloc (Below.refl w2.heap.size w2) (nbx n1 b1 cap1)
            have hz2 := hk2.size
            have hy2 : NdV (fun q => (w.heap.size ≤ q ∧ q ≠ w.heap.size ∧ q ≠ w.heap.size + 1) ∧ some q ≠ Value.ownBlock (.slice b' ks.length cap')) (w2.alloc (nbx n1 b1 cap1)) n1 (ndv n1 b1 cap1) := (hN1.weak (fun q hq _ => by simp at hq; exact ⟨⟨by omega, by omega, by omega⟩, fun e => by have := (hform.out q e.symm).2; omega⟩)).below hb2a
            obtain ⟨hRow5, r3, hk5, hown5⟩ := kids_step (lo := w.heap.size) ho hs hn hy2 (fun q hq => hq.2.2) (fun q hq => by simp at hq; exact ⟨by omega, by omega, by omega⟩) hown.out (by simp; omega) q3 hown3 hgrow hat rfl
            exact ⟨ks ++ [n1], j2, _, _, r3, hk5.box q4 (fun e => by rcases e with e | e; omega; exact (hs _ e.symm).2.1 rfl), hRow5, hown5, (hR2.below hb2a).keep hk5 (fun q hq e => by rcases e with e | e; omega; have := hown.out q e.symm; omega), ((hk4.trans hk2).trans (Keeps.of_below hb2a)).then hk5 (fun q hq e => by rcases e with e | e; omega; have := hown.out q e.symm; omega), by simp; omega, hP2⟩
end Go.Proofs.YtnnppenlfocgiaaGreatDoor
namespace Go.Proofs.YtnnppenlfocgiaaGreatDoor
open Go.RowKit
open Go

theorem res64 {tm : Array Value} {W : World} {B : Nat} {a b c d : Value} (h : tm[2]?.getD undef = .pointer (some ⟨B, 0, none⟩)) (hx : W.heap[B]? = some (.cells #[a, b, c, d] 24)) : (results Tryz.f64 tm).run Tryz.prog W = .ok (.agg #[a, b, c, d]) W := by
  obtain ⟨c0, c1, c2, c3, _, _, _, _⟩ := in4 hx
  simp [results, Tryz.results64, go_sem, h, c0, c1, c2, c3]
theorem pl_function : plainS W.function_ := ⟨_, _, rfl, rfl⟩
theorem needName_on {l : List PT} {h : List UInt8 → List PT → PR} {g : Nd → List PT → PR} : (needName l h).on g = needName l (fun s l => (h s l).on g) := by
  unfold needName
  split
  · rfl
  · rfl
/-- A function's end. -/
def funE (f : Nat) (s : List UInt8) (ks : List Nd) (l : List PT) : PR := (P f 7 (nd 4 []) 0 l).on fun b l => need W.end_ l fun l => .ok ⟨2, s, 0, ks ++ [b]⟩ l
/-- Between two parameters. -/
def ParI (f t : Nat) (s : List UInt8) (w : World) (B : Nat) (ts : List Tok) (r : PRes) (k : Nat) (m : Value) (wr : World) : Prop :=
  ∃ (more : Bool) (ks : List Nd) (j : Nat) (b : Option Addr) (cap : Nat), m = .bool more ∧ wr.heap[t]? = some (nbx ⟨2, s, 0, ks⟩ b cap) ∧ wr.heap[w.heap.size]? = some zbx ∧
    Row (fun g => w.heap.size < g ∧ g ≠ t) wr (.slice b ks.length cap) ks ∧ (∀ q, Value.ownBlock (.slice b ks.length cap) = some q → w.heap.size < q) ∧ Rd wr B ts j ∧ Keeps (fun k => k = B) w wr ∧ ks.length ≤ j ∧
    (if more then k ≤ f ∧ (P k 11 ⟨2, s, 0, ks⟩ 0 (rest ts j)).on (fun n l => need S.rp l fun l => funE f s n.kids l) = some r else need S.rp (rest ts j) (fun l => funE f s ks l) = some r)

set_option maxRecDepth 20000 in
set_option maxHeartbeats 4000000 in
theorem fun_of (f : Nat) (hB : BlkC f) : FunC (f + 1) := by
  intro r B ts i w hC hP
  rw [P] at hP
  obtain ⟨i0, hi0, hz0, hz1, hz2⟩ := info_parts info24
  have hBw := hC.R.lt
  have hb0 : Below w.heap.size w (w.alloc zbx) := ext_alloc (Below.refl _ _) _
  have h2 := alloc_new w zbx
  have hk0 : Keeps (fun k => k = B) w (w.alloc zbx) := Keeps.of_below hb0
  have hc1 := hC.wantsU pl_function hP _ hb0
  rw [World.size_alloc] at hc1
  clear hP
  go_enter Tryz.func64, Tryz.ntmps64
  go_wp2_with (first
    | (go_at_call 82; refine hc1.mono ?_; rintro e w2 (⟨rfl, hle, rfl, hk2⟩ | ⟨hP2, rfl, hR2, hk2⟩); (exact ⟨rfl, close_pan rfl hle (hk0.trans hk2)⟩); (try dsimp only at hP2); have hk2' := hk0.trans hk2; have g2 := hk2.box h2 (by omega))
    | (go_at_call 83; refine ((hC.on hR2).nameU hP2 _ (Below.refl _ _)).mono ?_; rintro e w3 (⟨rfl, hle, rfl, hk3⟩ | ⟨s, hP3, rfl, hR3, hk3⟩); (exact ⟨rfl, close_pan rfl hle (hk2'.trans hk3)⟩); (try dsimp only at hP3); have hk3' := hk2'.trans hk3; have g3 := hk3.box g2 (by omega); refine Hid.out ?_))
  have hzw := block_lt g2
  have hz3 := hk3.size
  have hb3 : Below w3.heap.size w3 (w3.alloc (nbx ⟨2, s, 0, []⟩ none 0)) := ext_alloc (Below.refl _ _) _
  have q4 := alloc_new w3 (nbx ⟨2, s, 0, []⟩ none 0)
  have g3' := block_below hb3 g3
  have hk4 := hk3'.trans (Keeps.of_below hb3)
  have hW4 := (hC.on hR3).wantsU pl_lp hP3 _ hb3
  rw [World.size_alloc] at hW4
  obtain ⟨t3, ht3⟩ : ∃ t3, w3.heap.size = t3 := ⟨_, rfl⟩
  clear hc1 hP2 hP3 hR2 hk2 hk2' h2 hk3 hk3'
  rw [ht3] at hW4 q4 hz3
  refine Lib.hid ?_
  go_wp2_with (go_at_call 82; refine hW4.mono ?_; rintro e w5 (⟨rfl, hle, rfl, hk5⟩ | ⟨hP5, rfl, hR5, hk5⟩); (exact ⟨rfl, close_pan rfl hle (hk4.trans hk5)⟩); (try dsimp only at hP5); have hk5' := hk4.trans hk5; have p3 := hk5.box q4 (by omega); have p2 := hk5.box g3' (by omega); refine Hid.out ?_)
  have hC5 := hC.on hR5
  have hSee := hC5.sees1 pl_rp w5 (Below.refl _ _)
  have hlen : ∃ more : Bool, decide (tx (rest ts (i + 1 + 1 + 1)) = S.rp) = !more ∧ (if more then f ≤ f ∧ (P f 11 ⟨2, s, 0, []⟩ 0 (rest ts (i + 1 + 1 + 1))).on (fun n l => need S.rp l fun l => funE f s n.kids l) = some r else need S.rp (rest ts (i + 1 + 1 + 1)) (fun l => funE f s [] l) = some r) := by
    by_cases hy : tx (rest ts (i + 1 + 1 + 1)) = S.rp
    · refine ⟨false, by simp [hy], ?_⟩
      rw [if_pos hy] at hP5
      rw [if_neg (by decide)]
      unfold need
      rw [if_pos hy]
      exact hP5
    · refine ⟨true, by simp [hy], ?_⟩
      rw [if_neg hy] at hP5
      rw [if_pos rfl]
      exact ⟨Nat.le_refl _, hP5⟩
  obtain ⟨more, hm1, hm2⟩ := hlen
  rw [hm1] at hSee
  replace hm2 : Hid _ := hm2
  have hz5 := block_lt p3
  clear hP5 hm1 ht3 hW4 hk5 hk4 q4 g3' g3 g2 hR3 hb3
  refine Lib.hid ?_
  go_wp2_with (go_at_call 84; refine hSee.mono ?_; rintro e w6 ⟨rfl, hb6⟩)
  have hI : ParI f t3 s w B ts r f (.bool more) w6 := ⟨more, [], i + 1 + 1 + 1, none, 0, rfl, block_below hb6 p3, block_below hb6 p2, Row.nil _ _, fun q e => by simp [Value.ownBlock] at e, hR5.below hb6, hk5'.trans (Keeps.of_below hb6), by simp, hm2.out⟩
  have hwt : w.heap.size < t3 := by omega
  clear p3 p2 hR5 hk5' hC5 hSee hm2 hb6 hz5 hz3 hzw
  go_loopg [4] f (fun k m wr => ParI f t3 s w B ts r k m wr)
  case atStart => exact hI
  case round =>
    obtain ⟨more1, ks, j, b', cap', rfl, p3, p4, hRow, hown, hR, hk, hkl, hr⟩ := hrel
    clear hI
    have hCr := hC.on hR
    have hz4 := block_lt p4
    have hjl := hR.le
    have hsh := hR.short
    have hn1 : ks.length + 1 ≤ maxLen := by unfold maxLen; omega
    have hb1 : (ks.length + 1) * 56 ≤ 140737488355328 := by omega
    cases more1 with
    | false =>
      rw [if_neg (by decide)] at hr
      have hWt := hCr.wantsU pl_rp hr wr (Below.refl _ _)
      clear hr
      go_wp2_with (go_at_call 82; refine hWt.mono ?_; rintro e w4 (⟨rfl, hle, rfl, hk4⟩ | ⟨hr4, rfl, hR4, hk4⟩); (exact ⟨rfl, close_pan rfl hle (hk.trans hk4)⟩); refine Hid.out ?_)
      unfold funE at hr4
      have p3' := hk4.box p3 (by omega)
      have p4' := hk4.box p4 (by omega)
      have hRow' := hRow.keep hk4 (fun q hq _ => by omega)
      have hk' := hk.trans hk4
      have hEE := fun u (h : Ctx u B ts (j + 1)) => callU hr4 (fun r0 h0 => hB r0 B ts _ u h h0)
      have hCr' := hC.on hR4
      obtain ⟨c0, c1, c2, c3, f0, f1, f2, f3⟩ := in4 p3'
      have hz4' := block_lt p4'
      clear hWt hr4 hCr p3 p4 hRow hk hk4 hR hB
      refine Lib.hid ?_
      go_wp2
      go_region_law (first
            | (refine step_append_lies _ (by rfl) _ _ _ (by rfl) 0 24 i0 _ 4 56 Tryz.underlying22 hi0 hz0 hz1 hz2 rfl (by omega) (.slice b' ks.length cap') ks.length _ (by rfl) ho ⟨w2.heap.size, 0, none⟩ 1 1 _ (by rfl) (by rfl) (cells_of n1 b1 cap1 (alloc_new w2 (nbx n1 b1 cap1))) (by simp [Value.oneCell']) (by omega) hn1 hb1 (Nat.zero_le _) _ rfl ?_; intro g3 cap3 w3 hown3 hgrow hat hlt3; have p3w := (hgrow.block _ (block_lt p3) hne3).trans p3; obtain ⟨c0, c1, c2, c3, f0, f1, f2, f3⟩ := in4 p3w)
            | (go_simp; go_at_call 86; refine (hEE _ (hCr'.below ((Below.refl _ _).drew))).mono ?_; rintro e w2 (⟨j1, rfl, hle, rfl, hk2⟩ | ⟨n1, j2, b1, cap1, hr2, rfl, hN1, hR2, hk2'⟩); (exact ⟨rfl, close_pan rfl hle ((hk'.drew).trans hk2)⟩); have hk2 := ((Keeps.refl (fun k => k = B) w4).drew).trans hk2'; clear hk2'; have pw3 := hk2.box p3' (by omega); have p3 := block_alloc (nbx n1 b1 cap1) pw3; have p4 := block_alloc (nbx n1 b1 cap1) (hk2.box p4' (by omega)); obtain ⟨c0, c1, c2, c3, f0, f1, f2, f3⟩ := in4 pw3; obtain ⟨d0, d1, d2, d3, e0, e1, e2, e3⟩ := in4a pw3; obtain ⟨xs, ho, hs, hn⟩ := ((hRow'.keep hk2 (fun g hg _ => by omega)).below (ext_alloc (Below.refl _ _) (nbx n1 b1 cap1))).own; have hne3 : some t3 ≠ Value.ownBlock (.slice b' ks.length cap') := fun e => (hs _ e.symm).2 rfl))
      all_goals
        clear c0 c1 c2 c3 f0 f1 f2 f3 d0 d1 d2 d3 e0 e1 e2 e3 hEE p3w pw3
        have hb2a := ext_alloc (Below.refl w2.heap.size w2) (nbx n1 b1 cap1)
        obtain ⟨_, _, _, hlt9⟩ := hRow'.form
        have hz2 : w4.heap.size ≤ w2.heap.size := hk2.size
        have hz3 := block_lt p3'
        have hy : NdV (fun q => (w.heap.size < q ∧ q ≠ t3) ∧ some q ≠ Value.ownBlock (.slice b' ks.length cap')) (w2.alloc (nbx n1 b1 cap1)) n1 (ndv n1 b1 cap1) := (hN1.weak (fun q hq _ => by simp at hq; exact ⟨⟨by omega, by omega⟩, fun e => by have := (hlt9 q e.symm).2; omega⟩)).below hb2a
        obtain ⟨W4, hW4⟩ : ∃ W4, w3.setCell ⟨t3, 3, none⟩ (.slice (some ⟨g3, 0, none⟩) (ks.length + 1) cap3) = W4 := ⟨_, rfl⟩
        obtain ⟨hRow5, q3, hk5, hown5⟩ := kids_step (lo := w.heap.size + 1) ho hs hn hy (fun q hq => hq.2) (fun q hq => by simp at hq; exact ⟨by omega, by omega⟩) (fun q e => hown q e) (by simp; omega) p3 hown3 hgrow hat hW4
        have q4 := hk5.box p4 (fun e => by rcases e with e | e; omega; have := (hs _ e.symm).1; omega)
        have hR5 := (hR2.below hb2a).keep hk5 (fun q hq e => by rcases e with e | e; omega; have := hown q e.symm; omega)
        have hkw5 := ((hk'.trans hk2).trans (Keeps.of_below hb2a)).then hk5 (fun q hq e => by rcases e with e | e; omega; have := hown q e.symm; omega)
        have hW8 := (hC.on hR5).wantsU pl_end hr2 W4 (Below.refl _ _)
        have hNN := hRow5.node 2 s 0
        clear hown3 hgrow hat hlt3 ho hs hn hy hk5 p3 p4 hRow' hR2 hN1 hk2 hb2a hown hr2
        refine Lib.hid ?_
        go_wp2_with (go_at_call 82; refine hW8.mono ?_; rintro e w8 (⟨rfl, hle, rfl, hk8⟩ | ⟨hP8, rfl, hR8, hk8⟩); (exact ⟨rfl, close_pan rfl hle (hkw5.trans hk8)⟩); have u3 := hk8.box q3 (by omega); have u4 := hk8.box q4 (by omega); obtain ⟨c0, c1, c2, c3, f0, f1, f2, f3⟩ := in4 u3; obtain ⟨d0, d1, d2, d3, e0, e1, e2, e3⟩ := in4 u4)
        obtain rfl := Option.some.inj hP8
        refine bodyPost_ret (res64 rfl (put4_same _ _ _ _ u4)) rfl ?_
        rw [show ks.length + 1 = (ks ++ [n1]).length by simp]
        exact close_ret (N := ⟨2, s, 0, ks ++ [n1]⟩) rfl ((hNN.keep hk8 (fun q hq _ => by omega)).weak (fun q hq _ => ⟨.inr (by omega), by omega⟩)) hR8 (hkw5.trans hk8) (Nat.le_refl _) hBw
    | true =>
      rw [if_pos rfl] at hr
      obtain ⟨hgf, hr⟩ := hr
      obtain ⟨c0, c1, c2, c3, f0, f1, f2, f3⟩ := in4 p3
      cases gk with
      | zero => cases hr
      | succ g =>
        rw [P, needName_on] at hr
        have hEE := fun u (h : Ctx u B ts j) => h.nameU hr u (Below.refl _ _)
        clear hr hB
        go_wp2
        go_region_law (first
            | (refine step_append_lies _ (by rfl) _ _ _ (by rfl) 0 24 i0 _ 4 56 Tryz.underlying22 hi0 hz0 hz1 hz2 rfl (by omega) (.slice b' ks.length cap') ks.length _ (by rfl) ho ⟨w2.heap.size, 0, none⟩ 1 1 _ (by rfl) (by rfl) (cells_of ⟨3, s1, 0, []⟩ none 0 (alloc_new w2 (nbx ⟨3, s1, 0, []⟩ none 0))) (by simp [Value.oneCell']) (by omega) hn1 hb1 (Nat.zero_le _) _ rfl ?_; intro g3 cap3 w3 hown3 hgrow hat hlt3; have p3w := (hgrow.block _ (block_lt p3) hne3).trans p3; obtain ⟨c0, c1, c2, c3, f0, f1, f2, f3⟩ := in4 p3w)
            | (go_simp; go_at_call 83; refine (hEE _ (hCr.below ((Below.refl _ _).drew))).mono ?_; rintro e w2 (⟨rfl, hle, rfl, hk2⟩ | ⟨s1, hr2, rfl, hR2, hk2'⟩); (exact ⟨rfl, close_pan rfl hle ((hk.drew).trans hk2)⟩); have hk2 := ((Keeps.refl (fun k => k = B) wr).drew).trans hk2'; clear hk2'; have pw3 := hk2.box p3 (by omega); have p3 := block_alloc (nbx ⟨3, s1, 0, []⟩ none 0) pw3; have p4 := block_alloc (nbx ⟨3, s1, 0, []⟩ none 0) (hk2.box p4 (by omega)); obtain ⟨c0, c1, c2, c3, f0, f1, f2, f3⟩ := in4 pw3; obtain ⟨d0, d1, d2, d3, e0, e1, e2, e3⟩ := in4a pw3; obtain ⟨xs, ho, hs, hn⟩ := ((hRow.keep hk2 (fun g hg _ => by omega)).below (ext_alloc (Below.refl _ _) (nbx ⟨3, s1, 0, []⟩ none 0))).own; have hne3 : some t3 ≠ Value.ownBlock (.slice b' ks.length cap') := fun e => (hs _ e.symm).2 rfl))
        all_goals
          clear c0 c1 c2 c3 f0 f1 f2 f3 d0 d1 d2 d3 e0 e1 e2 e3 hEE p3w pw3
          have hb2a := ext_alloc (Below.refl w2.heap.size w2) (nbx ⟨3, s1, 0, []⟩ none 0)
          obtain ⟨_, _, _, hlt9⟩ := hRow.form
          have hz2 : wr.heap.size ≤ w2.heap.size := hk2.size
          have hy : NdV (fun q => (w.heap.size < q ∧ q ≠ t3) ∧ some q ≠ Value.ownBlock (.slice b' ks.length cap')) (w2.alloc (nbx ⟨3, s1, 0, []⟩ none 0)) ⟨3, s1, 0, []⟩ (ndv ⟨3, s1, 0, []⟩ none 0) := ndV_leaf _ _ 3 s1 0
          obtain ⟨W4, hW4⟩ : ∃ W4, w3.setCell ⟨t3, 3, none⟩ (.slice (some ⟨g3, 0, none⟩) (ks.length + 1) cap3) = W4 := ⟨_, rfl⟩
          have hz9 := block_lt p3
          obtain ⟨hRow5, q3, hk5, hown5⟩ := kids_step (lo := w.heap.size + 1) ho hs hn hy (fun q hq => hq.2) (fun q hq => ⟨by simp at hq; omega, by omega⟩) (fun q e => hown q e) (by simp; omega) p3 hown3 hgrow hat hW4
          have q4 := hk5.box p4 (fun e => by rcases e with e | e; omega; have := (hs _ e.symm).1; omega)
          have hR5 := (hR2.below hb2a).keep hk5 (fun q hq e => by rcases e with e | e; omega; have := hown q e.symm; omega)
          have hkw5 := ((hk.trans hk2).trans (Keeps.of_below hb2a)).then hk5 (fun q hq e => by rcases e with e | e; omega; have := hown q e.symm; omega)
          have hC5 := hC.on hR5
          clear hown3 hgrow hat hlt3 ho hs hn hy hk5 p3 p4 hRow hR2 hk2 hb2a hown
          refine Lib.hid ?_
          dsimp only at hr2
          by_cases hcm : tx (rest ts (j + 1)) = S.cm
          · rw [if_pos hcm, rest_tail] at hr2
            replace hr2 : Hid _ := hr2
            have hT5 := hC5.takes_yes pl_cm hcm W4 (Below.refl _ _)
            go_wp2_with (go_at_call 85; refine hT5.mono ?_; rintro e w6 ⟨rfl, hR6, hk6⟩)
            go_roundg g
            case measure => omega
            case rel => exact ⟨true, ks ++ [⟨3, s1, 0, []⟩], j + 1 + 1, _, _, rfl, hk6.box q3 (by omega), hk6.box q4 (by omega), hRow5.keep hk6 (fun q hq _ => by omega), hown5, hR6, hkw5.trans hk6, by simp; omega, by rw [if_pos rfl]; exact ⟨by omega, hr2.out⟩⟩
          · rw [if_neg hcm] at hr2
            replace hr2 : Hid _ := hr2
            have hT5 := hC5.takes_no pl_cm hcm W4 (Below.refl _ _)
            go_wp2_with (go_at_call 85; refine hT5.mono ?_; rintro e w6 ⟨rfl, hb6⟩)
            go_roundg g
            case measure => omega
            case rel => exact ⟨false, ks ++ [⟨3, s1, 0, []⟩], j + 1, _, _, rfl, block_below hb6 q3, block_below hb6 q4, hRow5.below hb6, hown5, hR5.below hb6, hkw5.trans (Keeps.of_below hb6), by simp; omega, by rw [if_neg (by decide)]; exact hr2.out⟩
end Go.Proofs.YtnnppenlfocgiaaGreatDoor
namespace Go.Proofs.YtnnppenlfocgiaaGreatDoor
open Go.RowKit
open Go

structure AllC (f : Nat) : Prop where
  row : RowC f
  sgn : SgnC f
  sim : SimC f
  suf : SufC f
  blk : BlkC f
  st : StatC f
  fn : FunC f
theorem P_zero {tag : Nat} {x : Nd} {a : Nat} {l : List PT} {r : PRes} (h : P 0 tag x a l = some r) : False := by
  rw [P] at h
  cases h
theorem all_zero : AllC 0 where
  row := fun _ _ _ _ _ _ _ _ h => (P_zero h).elim
  sgn := fun _ _ _ _ _ _ h => (P_zero h).elim
  sim := fun _ _ _ _ _ _ h => (P_zero h).elim
  suf := fun _ _ _ _ _ _ _ _ _ _ _ _ h => (P_zero h).elim
  blk := fun _ _ _ _ _ _ h => (P_zero h).elim
  st := fun _ _ _ _ _ _ h => (P_zero h).elim
  fn := fun _ _ _ _ _ _ h => (P_zero h).elim
theorem all_of (f : Nat) : f ≤ 100000 → ∀ g, g ≤ f → AllC g := by
  induction f with
  | zero =>
    intro _ g hg
    obtain rfl : g = 0 := by omega
    exact all_zero
  | succ f ih =>
    intro hf g hg
    rcases Nat.lt_or_ge f g with h | h
    · obtain rfl : g = f + 1 := by omega
      have A := fun g hg => ih (by omega) g hg
      have Af := A f (Nat.le_refl _)
      have E := fun g hg => expr_of g (A g hg).row
      exact ⟨row_of f (fun g hg => (A g hg).row) Af.sgn, sgn_of f Af.sim (fun g hg => (A g (by omega)).suf) Af.sgn, sim_of f (E f (Nat.le_refl _)), suf_of f E, block_of (f + 1) hf (fun g hg => (A g (by omega)).st), stat_of f E (fun g hg => (A g hg).suf) Af.blk, fun_of f Af.blk⟩
    · exact ih (by omega) g h
theorem read_unit (r : PRes) (B : Nat) (ts : List Tok) (w : World) (hC : Ctx w B ts 0) (hP : P 64012 12 (nd 1 []) 0 (ts.map pt) = some r) : Calls Tryz.prog 40 #[.pointer (some ⟨B, 0, none⟩)] w (PAns no w B ts r) :=
  unit_of 64012 (by omega) (fun g hg => (all_of 64012 (by omega) g (by omega)).fn) r B ts 0 w hC hP
end Go.Proofs.YtnnppenlfocgiaaGreatDoor
namespace Go.Proofs.YtnnppenlfocgiaaGreatDoor
open Go.RowKit
open Go

/-- Where that is. -/
def fpos (ts : List Tok) (sz : Nat) (i : Nat) : Nat := match ts[i]? with
  | some x => x.a
  | none => sz
theorem TokAt.mono {W : World} {b : Option Addr} {ts : List Tok} {l1 l2 : Nat} (h : TokAt W b ts l1) (hl : l1 ≤ l2) : TokAt W b ts l2 := by
  rcases h with h | ⟨g, e, h1, h2, h3⟩
  · exact .inl h
  · exact .inr ⟨g, e, by omega, h2, h3⟩
theorem TokAt.below {W W' : World} {b : Option Addr} {ts : List Tok} {l : Nat} (h : TokAt W b ts l) (hb : Below W.heap.size W W') : TokAt W' b ts l := h.keep (Keeps.of_below (S := no) hb) (fun _ _ => id)
abbrev pu2 (W : World) (B : Nat) (a b : Value) : World := (W.setCell ⟨B, 0, none⟩ a).setCell ⟨B, 1, none⟩ b
theorem pu2_self (W : World) (B : Nat) (a b : Value) : Keeps (fun k => k = B) W (pu2 W B a b) := ((Keeps.refl (fun k => k = B) W).set B 0 a (fun _ => rfl)).set B 1 b (fun _ => rfl)
theorem pu2_same {W : World} {B : Nat} {a b : Value} (a' b' : Value) (h : W.heap[B]? = some (.cells #[a, b] 27)) : (pu2 W B a' b').heap[B]? = some (.cells #[a', b'] 27) := set_block _ (set_block _ h)
theorem pu2_other {W : World} {B C : Nat} (a b : Value) (h : C ≠ B) : (pu2 W B a b).heap[C]? = W.heap[C]? := (set1_other _ _ h).trans (set1_other _ _ h)
theorem res13 {tm : Array Value} {W : World} {B C : Nat} {a b c d x y : Value} (h : tm[4]?.getD undef = .pointer (some ⟨B, 0, none⟩)) (h' : tm[5]?.getD undef = .pointer (some ⟨C, 0, none⟩)) (hx : W.heap[B]? = some (.cells #[a, b, c, d] 24)) (hy : W.heap[C]? = some (.cells #[x, y] 27)) : (results Tryz.f22 tm).run Tryz.prog W = .ok (.tuple #[.agg #[a, b, c, d], .agg #[x, y]]) W := by
  obtain ⟨c0, c1, c2, c3, _, _, _, _⟩ := in4 hx
  have d0 : W.cell? ⟨C, 0, none⟩ = some x := cell_block hy rfl
  have d1 : W.cell? ⟨C, 1, none⟩ = some y := cell_block hy rfl
  simp [results, Tryz.results22, go_sem, h, h', c0, c1, c2, c3, d0, d1]
/-- The boxes of read. -/
structure RB (w U : World) (sz : Nat) : Prop where
  g0 : U.heap[w.heap.size]? = some (.cells #[.int .i64 (sz : Nat)] 3)
  g1 : U.heap[w.heap.size + 1]? = some zbx
  g2 : U.heap[w.heap.size + 1 + 1]? = some (.cells #[.int .i64 0, .int .i64 0] 27)
  lt : w.heap.size + 1 + 1 < U.heap.size
theorem RB.keep {w U U' : World} {sz : Nat} {S : Nat → Prop} (h : RB w U sz) (hk : Keeps S U U') (hs : ∀ g, g ≤ w.heap.size + 1 + 1 → ¬ S g) : RB w U' sz := by
  have := h.lt
  have := hk.size
  exact ⟨hk.box h.g0 (hs _ (by omega)), hk.box h.g1 (hs _ (by omega)), hk.box h.g2 (hs _ (by omega)), by omega⟩
theorem rb_new (w : World) (sz : Nat) : RB w (((w.alloc (.cells #[.int .i64 (sz : Nat)] 3)).alloc zbx).alloc (.cells #[.int .i64 0, .int .i64 0] 27)) sz ∧ Below w.heap.size w (((w.alloc (.cells #[.int .i64 (sz : Nat)] 3)).alloc zbx).alloc (.cells #[.int .i64 0, .int .i64 0] 27)) := by
  have h0 := alloc_new w (.cells #[.int .i64 (sz : Nat)] 3)
  have h1 := alloc_new (w.alloc (.cells #[.int .i64 (sz : Nat)] 3)) zbx
  have h2 := alloc_new ((w.alloc (.cells #[.int .i64 (sz : Nat)] 3)).alloc zbx) (.cells #[.int .i64 0, .int .i64 0] 27)
  rw [World.size_alloc] at h1
  rw [World.size_alloc, World.size_alloc] at h2
  exact ⟨⟨block_alloc _ (block_alloc _ h0), block_alloc _ h1, h2, by simp⟩, ext_alloc (ext_alloc (ext_alloc (Below.refl _ _) _) _) _⟩
set_option maxRecDepth 20000 in
set_option maxHeartbeats 1000000 in
theorem read_ok (ts : List Tok) (b : Option Addr) (cap sz : Nat) (n : Nd) (l : List PT) (w : World) (hV : allV (ts.map pt)) (hT : TokAt w b ts w.heap.size) (hsp : SpTab w) (hsh : ts.length ≤ 4000) (hcap : ts.length ≤ cap) (hP : P 64012 12 (nd 1 []) 0 (ts.map pt) = some (.inr (n, l))) :
    Calls Tryz.prog 22 #[.slice b ts.length cap, .int .i64 (sz : Nat)] w fun e w' => ∃ b1 cap1, e = .returned (.tuple #[ndv n b1 cap1, .agg #[.int .i64 0, .int .i64 0]]) ∧ NdV (fun g => w.heap.size ≤ g) w' n (ndv n b1 cap1) ∧ Below w.heap.size w w' := by
  have hmf : ∀ (fn : Fn) (first cap : Array Value) (w : World), (Instr.makeFunc fn first cap).run Tryz.prog w = .ok (.func fn first cap) w := fun _ _ _ _ => rfl
  obtain ⟨hRB, hb0⟩ := rb_new w sz
  have hT0 := hT.below hb0
  have hsp0 := hsp.below hb0
  obtain ⟨U, hU⟩ : ∃ U, ((w.alloc (.cells #[.int .i64 (sz : Nat)] 3)).alloc zbx).alloc (.cells #[.int .i64 0, .int .i64 0] 27) = U := ⟨_, rfl⟩
  rw [hU] at hRB hb0 hT0 hsp0
  replace hU : ((w.alloc (.cells #[.int .i64 (sz : Nat)] 3)).alloc (.cells #[.int .i64 0, .string ⟨#[]⟩, .int .i64 0, .slice none 0 0] 24)).alloc (.cells #[.int .i64 0, .int .i64 0] 27) = U := hU
  have hNW := newWords_any U hsp0
  clear hT hsp
  obtain ⟨L, hL⟩ : ∃ L, ts.length = L := ⟨_, rfl⟩
  rw [hL]
  go_enter_defers Tryz.func22, Tryz.ntmps22
  go_wp2_with (go_at_call 39; refine hNW.mono ?_; rintro e w1 ⟨m1, m2, m3, m4, m5, rfl, hWd, hb1⟩; refine Hid.out ?_)
  have hb2 := ext_alloc (Below.refl w1.heap.size w1) (rbx m1 m2 m3 m4 m5 b L cap 0)
  have hC : Ctx (w1.alloc (rbx m1 m2 m3 m4 m5 b L cap 0)) w1.heap.size ts 0 := by
    refine ⟨hV, ⟨m1, m2, m3, m4, m5, b, cap, hL ▸ alloc_new w1 _, ?_, ?_, hcap⟩, Nat.zero_le _, hsh⟩
    · exact ((hT0.below hb1).below hb2).mono (by have := hb0.size; have := hb1.size; omega)
    · exact hWd.keep (Keeps.of_below (S := no) hb2) (fun _ _ => id)
  have hRB2 := (hRB.keep (Keeps.of_below (S := no) hb1) (fun _ _ => id)).keep (Keeps.of_below (S := no) hb2) (fun _ _ => id)
  have hbw := ext_trans (ext_trans hb0 hb1) hb2
  have hUn := read_unit _ w1.heap.size ts _ hC hP
  have hz : w.heap.size + 1 + 1 < w1.heap.size := by have := hRB.lt; have := hb1.size; omega
  refine Lib.hid ?_
  go_wp2_with (go_at_call 40; refine Hid.out ?_)
  obtain ⟨B, hB⟩ : ∃ B, w1.heap.size = B := ⟨_, rfl⟩
  obtain ⟨W, hW⟩ : ∃ W, w1.alloc (rbx m1 m2 m3 m4 m5 b L cap 0) = W := ⟨_, rfl⟩
  rw [hW] at hUn hRB2 hbw hC
  rw [hB] at hUn hC hz
  have hBW := hC.R.lt
  clear hU hNW hT0 hsp0 hRB hb0 hWd hb1 hb2 hP
  rw [hW, hB]
  clear hW hB
  refine Lib.hid ?_
  go_wp2_with (go_at_call 40; refine hUn.mono ?_; rintro e w2 ⟨i, b1, cap1, hi, rfl, hN, hR, hk⟩; have hRB3 := hRB2.keep (S := fun q => q = B) hk (fun q hq e => by omega); obtain ⟨c0, c1, c2, c3, f0, f1, f2, f3⟩ := in4 hRB3.g1; have d0 : w2.cell? ⟨w.heap.size + 1 + 1, 0, none⟩ = some (.int .i64 0) := cell_block hRB3.g2 rfl; have d1 : w2.cell? ⟨w.heap.size + 1 + 1, 1, none⟩ = some (.int .i64 0) := cell_block hRB3.g2 rfl; have e0 : w2.frozen? ⟨w.heap.size + 1 + 1, 0, none⟩ = false := frozen_block hRB3.g2; have e1 : w2.frozen? ⟨w.heap.size + 1 + 1, 1, none⟩ = false := frozen_block hRB3.g2)
  have x1 : (pu2 (put4 w2 (w.heap.size + 1) (.int .i64 n.k) (sk n.t) (.int .i64 n.n) (.slice b1 n.kids.length cap1)) (w.heap.size + 1 + 1) (.int .i64 0) (.int .i64 0)).heap[w.heap.size + 1]? = some (nbx n b1 cap1) := (pu2_other _ _ (by omega)).trans (put4_same _ _ _ _ hRB3.g1)
  have x2 : (pu2 (put4 w2 (w.heap.size + 1) (.int .i64 n.k) (sk n.t) (.int .i64 n.n) (.slice b1 n.kids.length cap1)) (w.heap.size + 1 + 1) (.int .i64 0) (.int .i64 0)).heap[w.heap.size + 1 + 1]? = some (.cells #[.int .i64 0, .int .i64 0] 27) := pu2_same _ _ ((put4_other _ _ _ _ (by omega)).trans hRB3.g2)
  have hkF : Keeps (fun q => q = w.heap.size + 1 ∨ q = w.heap.size + 1 + 1) w2 (pu2 (put4 w2 (w.heap.size + 1) (.int .i64 n.k) (sk n.t) (.int .i64 n.n) (.slice b1 n.kids.length cap1)) (w.heap.size + 1 + 1) (.int .i64 0) (.int .i64 0)) := ((put4_self _ _ _ _ _ _).mono (fun q _ e => .inl e)).then (pu2_self _ _ _ _) (fun q _ e => .inr e)
  have hKF := ((Keeps.of_below (S := no) hbw).then hk (fun q hq e => by omega)).then hkF (fun q hq e => by omega)
  refine leaves_cons (f := 38) (args := #[.pointer (some ⟨w.heap.size + 1 + 1, 0, none⟩), .pointer (some ⟨w.heap.size, 0, none⟩)]) (by simp) (by simp [go_sem]) ?_
  refine (catch_idle _ _ _).mono ?_
  rintro e u' w'' ⟨rfl, rfl, rfl⟩
  refine ⟨_, res13 rfl rfl x1 x2, b1, cap1, rfl, ?_, hKF.below (Nat.le_refl _) (fun _ _ => id)⟩
  exact (hN.keep hkF (fun q hq _ e => by rcases hq with hq | hq; exact hq; have := hRB2.lt; omega)).weak (fun q hq _ => by rcases hq with hq | hq; exact hq.elim; have := hRB2.lt; omega)
set_option maxRecDepth 20000 in
set_option maxHeartbeats 1000000 in
theorem read_no (ts : List Tok) (b : Option Addr) (cap sz : Nat) (l : List PT) (w : World) (hV : allV (ts.map pt)) (hT : TokAt w b ts w.heap.size) (hsp : SpTab w) (hsh : ts.length ≤ 4000) (hcap : ts.length ≤ cap) (hP : P 64012 12 (nd 1 []) 0 (ts.map pt) = some (.inl l)) :
    Calls Tryz.prog 22 #[.slice b ts.length cap, .int .i64 (sz : Nat)] w fun e w' => ∃ i, rest ts i = l ∧ i ≤ ts.length ∧ e = .returned (.tuple #[.agg #[.int .i64 0, .string ⟨#[]⟩, .int .i64 0, .slice none 0 0], .agg #[.int .i64 2, .int .i64 (fpos ts sz i : Nat)]]) ∧ Below w.heap.size w w' := by
  have hmf : ∀ (fn : Fn) (first cap : Array Value) (w : World), (Instr.makeFunc fn first cap).run Tryz.prog w = .ok (.func fn first cap) w := fun _ _ _ _ => rfl
  obtain ⟨hRB, hb0⟩ := rb_new w sz
  have hT0 := hT.below hb0
  have hsp0 := hsp.below hb0
  obtain ⟨U, hU⟩ : ∃ U, ((w.alloc (.cells #[.int .i64 (sz : Nat)] 3)).alloc zbx).alloc (.cells #[.int .i64 0, .int .i64 0] 27) = U := ⟨_, rfl⟩
  rw [hU] at hRB hb0 hT0 hsp0
  replace hU : ((w.alloc (.cells #[.int .i64 (sz : Nat)] 3)).alloc (.cells #[.int .i64 0, .string ⟨#[]⟩, .int .i64 0, .slice none 0 0] 24)).alloc (.cells #[.int .i64 0, .int .i64 0] 27) = U := hU
  have hNW := newWords_any U hsp0
  clear hT hsp
  obtain ⟨L, hL⟩ : ∃ L, ts.length = L := ⟨_, rfl⟩
  rw [hL]
  go_enter_defers Tryz.func22, Tryz.ntmps22
  go_wp2_with (go_at_call 39; refine hNW.mono ?_; rintro e w1 ⟨m1, m2, m3, m4, m5, rfl, hWd, hb1⟩; refine Hid.out ?_)
  have hb2 := ext_alloc (Below.refl w1.heap.size w1) (rbx m1 m2 m3 m4 m5 b L cap 0)
  have hC : Ctx (w1.alloc (rbx m1 m2 m3 m4 m5 b L cap 0)) w1.heap.size ts 0 := by
    refine ⟨hV, ⟨m1, m2, m3, m4, m5, b, cap, hL ▸ alloc_new w1 _, ?_, ?_, hcap⟩, Nat.zero_le _, hsh⟩
    · exact ((hT0.below hb1).below hb2).mono (by have := hb0.size; have := hb1.size; omega)
    · exact hWd.keep (Keeps.of_below (S := no) hb2) (fun _ _ => id)
  have hRB2 := (hRB.keep (Keeps.of_below (S := no) hb1) (fun _ _ => id)).keep (Keeps.of_below (S := no) hb2) (fun _ _ => id)
  have hbw := ext_trans (ext_trans hb0 hb1) hb2
  have hUn := read_unit _ w1.heap.size ts _ hC hP
  have hz : w.heap.size + 1 + 1 < w1.heap.size := by have := hRB.lt; have := hb1.size; omega
  refine Lib.hid ?_
  go_wp2_with (go_at_call 40; refine Hid.out ?_)
  obtain ⟨B, hB⟩ : ∃ B, w1.heap.size = B := ⟨_, rfl⟩
  obtain ⟨W, hW⟩ : ∃ W, w1.alloc (rbx m1 m2 m3 m4 m5 b L cap 0) = W := ⟨_, rfl⟩
  rw [hW] at hUn hRB2 hbw hC
  rw [hB] at hUn hC hz
  have hBW := hC.R.lt
  clear hU hNW hT0 hsp0 hRB hb0 hWd hb1 hb2 hP
  rw [hW, hB]
  clear hW hB
  refine Lib.hid ?_
  go_wp2_with (go_at_call 40; refine hUn.mono ?_; rintro e w2 ⟨i, hi, hle, rfl, hk⟩; have hRB3 := hRB2.keep (S := fun q => q = B) hk (fun q hq e => by omega))
  have hKW := (Keeps.of_below (S := no) hbw).then hk (fun q hq e => by omega)
  unfold gv
  have hq : w2.cell? ⟨w.heap.size, 0, none⟩ = some (.int .i64 (sz : Nat)) := cell_block hRB3.g0 rfl
  cases hx : ts[i]? with
  | some x =>
    have hv : fpos ts sz i = x.a := by unfold fpos; rw [hx]
    simp only
    refine leaves_cons (f := 38) (args := #[.pointer (some ⟨w.heap.size + 1 + 1, 0, none⟩), .pointer (some ⟨w.heap.size, 0, none⟩)]) (by simp) (by simp [go_sem]) ?_
    refine (catch_stray _ _ _ _ _ _ _ hRB3.g2).mono ?_
    rintro e u' w'' ⟨rfl, rfl, rfl⟩
    have xb := ext_alloc (Below.refl _ (pu2 w2 (w.heap.size + 1 + 1) (.int .i64 2) (.int .i64 (x.a : Nat)))) (.cells #[.int .i64 (x.a : Nat)] 74)
    have x1 := block_below xb ((pu2_other (W := w2) (C := w.heap.size + 1) (.int .i64 2) (.int .i64 (x.a : Nat)) (by omega)).trans hRB3.g1)
    have x2 := block_below xb (pu2_same (.int .i64 2) (.int .i64 (x.a : Nat)) hRB3.g2)
    refine ⟨_, res13 rfl rfl x1 x2, i, hi, hL ▸ hle, by rw [hv], ?_⟩
    exact ((hKW.then (pu2_self _ _ _ _) (fun q hq e => by omega)).trans (Keeps.of_below xb)).below (Nat.le_refl _) (fun _ _ => id)
  | none =>
    have hv : fpos ts sz i = sz := by unfold fpos; rw [hx]
    simp only
    refine leaves_cons (f := 38) (args := #[.pointer (some ⟨w.heap.size + 1 + 1, 0, none⟩), .pointer (some ⟨w.heap.size, 0, none⟩)]) (by simp) (by simp [go_sem]) ?_
    refine (catch_ended _ _ _ _ _ _ _ hRB3.g2 hq ⟨_, rfl⟩).mono ?_
    rintro e u' w'' ⟨rfl, rfl, rfl⟩
    have xb := ext_alloc (Below.refl _ (pu2 w2 (w.heap.size + 1 + 1) (.int .i64 2) (.int .i64 (sz : Nat)))) (.cells #[] 76)
    have x1 := block_below xb ((pu2_other (W := w2) (C := w.heap.size + 1) (.int .i64 2) (.int .i64 (sz : Nat)) (by omega)).trans hRB3.g1)
    have x2 := block_below xb (pu2_same (.int .i64 2) (.int .i64 (sz : Nat)) hRB3.g2)
    refine ⟨_, res13 rfl rfl x1 x2, i, hi, hL ▸ hle, by rw [hv], ?_⟩
    exact ((hKW.then (pu2_self _ _ _ _) (fun q hq e => by omega)).trans (Keeps.of_below xb)).below (Nat.le_refl _) (fun _ _ => id)
end Go.Proofs.YtnnppenlfocgiaaGreatDoor
namespace Go.Proofs.YtnnppenlfocgiaaGreatDoor
open Go.RowKit
open Go

theorem scan_any (s : ByteArray) (w : World) (hE : ErrV w) : Calls Tryz.prog 21 #[.string s] w (Out w (scanAll s.data.toList)) := by
  have hl : s.data.toList.length = s.size := by simp
  unfold scanAll
  rw [hl]
  by_cases h : 4000 < s.size
  · rw [if_pos h]; exact scan_big s h w
  · rw [if_neg h]; exact scan_ok s (by omega) w hE
theorem rscan_any (s : ByteArray) (w : World) : Calls Tryz.prog 16 #[.string s] w (Out w (scanAll s.data.toList)) := by
  have hl : s.data.toList.length = s.size := by simp
  unfold scanAll
  rw [hl]
  by_cases h : 4000 < s.size
  · rw [if_pos h]; exact rscan_big s h w
  · rw [if_neg h]; exact rscan_ok s (by omega) w
theorem tokAt_of {base : Nat} {W : World} {b : Option Addr} {n d : Nat} {ts : List Tok} (h : W.ownsRow base 55 3 (.slice b n d) ts.length (flatT ts)) : n = ts.length ∧ ts.length ≤ d ∧ TokAt W b ts W.heap.size := by
  rcases h.2 with ⟨e, h0⟩ | ⟨g, cap, cur, e, _, hg, hcap, _, _, ht⟩
  · cases e
    have : ts = [] := List.length_eq_zero_iff.1 h0
    subst this
    exact ⟨rfl, Nat.le_refl _, .inl rfl⟩
  · cases e
    have hlt := (Array.getElem?_eq_some_iff.1 hg).1
    refine ⟨rfl, hcap, .inr ⟨g, rfl, hlt, hlt, fun j x hj i u hu => ?_⟩⟩
    have hi : i < 3 := by
      have := (List.getElem?_eq_some_iff.1 hu).1
      simpa using this
    have hjl : j < ts.length := (List.getElem?_eq_some_iff.1 hj).1
    have hf := flatT_get hj i hi
    rw [← ht, List.getElem?_take_of_lt (by omega)] at hf
    have hf2 : cur[j * 3 + i]? = (trioT x)[i]? := by simpa using hf
    have : (trioT x)[i]? = some u := hu
    rw [this] at hf2
    simp [World.cell?, hg, hf2]
theorem toks_len : ∀ (m : Nat) (l : List UInt8) (a : Nat), l.length ≤ m → (toksOf (scanR a l)).length ≤ l.length
  | 0, l, a, h => by
    obtain rfl : l = [] := List.eq_nil_of_length_eq_zero (by omega)
    rw [scanR_nil]; simp [toksOf]
  | m + 1, l, a, h => by
    by_cases h0 : l = []
    · subst h0; rw [scanR_nil]; simp [toksOf]
    by_cases h1 : gap1 l = 0
    · cases ht : tokR l using TokR.byCases with
      | bad e => rw [scanR_bad h0 h1 ht]; simp [toksOf]
      | tok k t n =>
        have hs := tok_size ht
        have ih := toks_len m (l.drop n) (a + n) (by simp; omega)
        rw [scanR_tok h0 h1 ht]
        simp at ih
        cases hq : scanR (a + n) (l.drop n) using ScanR.byCases with
        | bad e p => simp [ScanR.pre, toksOf]
        | toks us =>
          rw [hq] at ih
          simp [ScanR.pre, toksOf] at ih ⊢
          omega
    · have h2 := gap1_le l
      have ih := toks_len m (l.drop (gap1 l)) (a + gap1 l) (by simp; omega)
      rw [scanR_gap h1]
      simp at ih
      omega
theorem code_ne : ∀ (m : Nat) (l : List UInt8) (a : Nat) (e : Int) (p : Nat), l.length ≤ m → scanR a l = .bad e p → e ≠ 0
  | 0, l, a, e, p, h, hb => by
    obtain rfl : l = [] := List.eq_nil_of_length_eq_zero (by omega)
    rw [scanR_nil] at hb; cases hb
  | m + 1, l, a, e, p, h, hb => by
    by_cases h0 : l = []
    · subst h0; rw [scanR_nil] at hb; cases hb
    by_cases h1 : gap1 l = 0
    · cases ht : tokR l using TokR.byCases with
      | bad e' =>
        rw [scanR_bad h0 h1 ht] at hb
        cases hb
        simpa using (bad_ne ht).1
      | tok k t n =>
        have hs := tok_size ht
        have ih := code_ne m (l.drop n) (a + n) e p (by simp; omega)
        rw [scanR_tok h0 h1 ht] at hb
        cases hq : scanR (a + n) (l.drop n) using ScanR.byCases with
        | bad e' p' =>
          rw [hq] at hb
          simp [ScanR.pre] at hb
          exact ih (by rw [hq]; simp [hb])
        | toks us =>
          rw [hq] at hb
          simp [ScanR.pre] at hb
    · have h2 := gap1_le l
      rw [scanR_gap h1] at hb
      exact code_ne m (l.drop (gap1 l)) (a + gap1 l) e p (by simp; omega) hb
/-- Of a text: a fault and where it is, or the node. -/
def parseR (l : List UInt8) : (Int × Nat) ⊕ Nd :=
  match scanAll l with
  | .inl x => .inl x
  | .inr ts => match P 64012 12 (nd 1 []) 0 (ts.map pt) with
    | none => .inl (0, 0)
    | some (.inl r) => .inl (2, fpos ts l.length (ts.length - r.length))
    | some (.inr (n, _)) => if fitB n then .inr n else .inl (1, 0)
/-- What is known of tokens that were scanned. -/
theorem toks_of {l : List UInt8} {ts : List Tok} (h : scanAll l = .inr ts) : ts.length ≤ 4000 ∧ allV (ts.map pt) ∧ ∃ r, P 64012 12 (nd 1 []) 0 (ts.map pt) = some r := by
  unfold scanAll at h
  split at h
  · cases h
  rename_i h4
  have hl := toks_len l.length l 0 (Nat.le_refl _)
  rw [h] at hl
  have hl' : ts.length ≤ 4000 := by simp [toksOf] at hl; omega
  refine ⟨hl', (scan_valid l.length l 0 ts (Nat.le_refl _) h).1, ?_⟩
  obtain ⟨r, hr, _⟩ := tot_all 64012 12 (nd 1 []) 0 (ts.map pt) (by omega) (by simp [rank]; omega)
  exact ⟨r, hr⟩
theorem code_of {l : List UInt8} {e : Int} {p : Nat} (h : scanAll l = .inl (e, p)) : e ≠ 0 := by
  unfold scanAll at h
  split at h
  · cases h; decide
  · exact code_ne l.length l 0 e p (Nat.le_refl _) h
abbrev zagg : Value := .agg #[.int .i64 0, .string ⟨#[]⟩, .int .i64 0, .slice none 0 0]
/-- What a Parse answers. -/
def POut (w : World) (R : (Int × Nat) ⊕ Nd) (e : Ending) (w' : World) : Prop :=
  (match R with
  | .inl (c, a) => e = .returned (.tuple #[zagg, .agg #[.int .i64 c, .int .i64 (a : Nat)]])
  | .inr n => fitB n = true ∧ ∃ b cap, e = .returned (.tuple #[ndv n b cap, .agg #[.int .i64 0, .int .i64 0]]) ∧ NdV (fun g => w.heap.size ≤ g) w' n (ndv n b cap)) ∧ Below w.heap.size w w'
end Go.Proofs.YtnnppenlfocgiaaGreatDoor
namespace Go.Proofs.YtnnppenlfocgiaaGreatDoor
open Go.RowKit
open Go

set_option maxRecDepth 20000 in
set_option maxHeartbeats 400000 in
theorem catch2_idle (p : Addr) (w : World) :
    CallsD Tryz.prog 24 #[.pointer (some p)] .returning w fun e u' w' => e = .returned (.tuple #[]) ∧ u' = .returning ∧ w' = w := by
  refine callsD_of_wpS Tryz.func24 rfl fun c₀ cs hu => ?_
  apply wpS_seq
  apply wpS_region
  simp [wpOpsS, go_sem, recoverD, hu, Tryz.ntmps24, Exit.thenS]
  refine wpS_of_wp ?_
  refine wp_any (R := fun a' w' => a'.defers = [] ∧ w' = w) (fun Q hQ => ?_) ?_
  · clear hu
    have hf : #[Value.pointer (some p)] ++ (Array.replicate 10 undef).setIfInBounds 3 Value.nilIface = #[.pointer (some p), undef, undef, undef, .nilIface, undef, undef, undef, undef, undef, undef] := by kernel_rfl
    rw [hf]
    clear hf
    go_wp2
  · rintro a' w' ⟨h1, rfl⟩
    cases c₀
    simp_all [bodyPostS, results, Tryz.results24]
set_option maxRecDepth 20000 in
set_option maxHeartbeats 400000 in
theorem catch2_flt (b : Nat) (cd a : Int) (A0 A1 : Value) (older : List PanicEntry) (w : World) (hc : w.heap[b]? = some (.cells #[A0, A1] 27)) :
    CallsD Tryz.prog 24 #[.pointer (some ⟨b, 0, none⟩)] (.panicking ({ v := .iface 27 (.agg #[.int .i64 cd, .int .i64 a]), recovered := false } :: older)) w fun e u' w' => e = .returned (.tuple #[]) ∧ u' = .panicking ({ v := .iface 27 (.agg #[.int .i64 cd, .int .i64 a]), recovered := true } :: older) ∧ w' = ((w.setCell ⟨b, 0, none⟩ (.int .i64 cd)).setCell ⟨b, 1, none⟩ (.int .i64 a)).alloc (.cells #[.int .i64 cd, .int .i64 a] 27) := by
  have hb := block_lt hc
  have c0 := cell_block (i := 0) hc rfl
  have c1 := cell_block (i := 1) hc rfl
  have f0 := frozen_block (i := 0) hc
  have f1 := frozen_block (i := 1) hc
  have n1 : ¬ b = w.heap.size := by omega
  have y1 : ∀ u : World, (Instr.typeAssert (.iface 27 (.agg #[.int .i64 cd, .int .i64 a])) 20 27 true).run Tryz.prog u = .ok (.tuple #[.agg #[.int .i64 cd, .int .i64 a], .bool true]) u := fun _ => by kernel_rfl
  have n2 : ¬ w.heap.size = b := by omega
  refine callsD_of_wpS Tryz.func24 rfl fun c₀ cs hu => ?_
  apply wpS_seq
  apply wpS_region
  simp [wpOpsS, go_sem, recoverD, hu, Tryz.ntmps24, Exit.thenS]
  refine wpS_of_wp ?_
  refine wp_any (R := fun a' w' => a'.defers = [] ∧ w' = ((w.setCell ⟨b, 0, none⟩ (.int .i64 cd)).setCell ⟨b, 1, none⟩ (.int .i64 a)).alloc (.cells #[.int .i64 cd, .int .i64 a] 27)) (fun Q hQ => ?_) ?_
  · clear hu
    have hf : #[Value.pointer (some ⟨b, 0, none⟩)] ++ (Array.replicate 10 undef).setIfInBounds 3 (Value.iface 27 (.agg #[.int .i64 cd, .int .i64 a])) = #[.pointer (some ⟨b, 0, none⟩), undef, undef, undef, .iface 27 (.agg #[.int .i64 cd, .int .i64 a]), undef, undef, undef, undef, undef, undef] := by kernel_rfl
    rw [hf]
    clear hf hc
    go_wp2
  · rintro a' w' ⟨h1, rfl⟩
    cases c₀
    simp_all [bodyPostS, results, Tryz.results24]
theorem res15 {tm : Array Value} {W : World} {C : Nat} {v x y : Value} (h : tm[2]?.getD undef = v) (h' : tm[3]?.getD undef = .pointer (some ⟨C, 0, none⟩)) (hy : W.heap[C]? = some (.cells #[x, y] 27)) : (results Tryz.f15 tm).run Tryz.prog W = .ok (.tuple #[v, .agg #[x, y]]) W := by
  have d0 : W.cell? ⟨C, 0, none⟩ = some x := cell_block hy rfl
  have d1 : W.cell? ⟨C, 1, none⟩ = some y := cell_block hy rfl
  subst h
  simp [results, Tryz.results15, go_sem, h', d0, d1]
/-- Slots in memory. -/
def SlAt (lo : Nat) (W : World) (b : Option Addr) (sl : List Int) : Prop := sl = [] ∨ ∃ g, b = some ⟨g, 0, none⟩ ∧ lo ≤ g ∧ g < W.heap.size ∧ ∀ (j : Nat) (x : Int), sl[j]? = some x → W.cell? ⟨g, j, none⟩ = some (.int .i64 x)
theorem SlAt.of {W : World} {base : Nat} {b : Option Addr} {c : Nat} {sl : List Int} (h : W.ownsRow base 3 1 (.slice b sl.length c) sl.length (sl.map iv)) : SlAt base W b sl := by
  rcases h.2 with ⟨e, h0⟩ | ⟨g, cap, cur, e, hbase, hg, hcap, _, _, ht⟩
  · exact .inl (List.length_eq_zero_iff.1 h0)
  · cases e
    refine .inr ⟨g, rfl, hbase, block_lt hg, fun j x hx => ?_⟩
    have hj := (List.getElem?_eq_some_iff.1 hx).1
    have hv : (sl.map iv)[j]? = some (iv x) := by rw [List.getElem?_map, hx]; rfl
    rw [← ht, List.getElem?_take_of_lt (by omega)] at hv
    have hf2 : cur[j]? = some (iv x) := by simpa using hv
    simp [World.cell?, hg, hf2]
theorem SlAt.mono {lo lo' : Nat} {W : World} {b : Option Addr} {sl : List Int} (h : SlAt lo W b sl) (hl : lo' ≤ lo) : SlAt lo' W b sl := by
  rcases h with h | ⟨g, e, h1, hg, hc⟩
  · exact .inl h
  · exact .inr ⟨g, e, by omega, hg, hc⟩
theorem SlAt.keep {lo : Nat} {S : Nat → Prop} {W W' : World} {b : Option Addr} {sl : List Int} (h : SlAt lo W b sl) (hk : Keeps S W W') (hs : ∀ g, lo ≤ g → g < W.heap.size → ¬ S g) : SlAt lo W' b sl := by
  rcases h with h | ⟨g, e, h1, hg, hc⟩
  · exact .inl h
  · exact .inr ⟨g, e, h1, Nat.lt_of_lt_of_le hg hk.size, fun j x hx => hk.cell (hc j x hx) (hs g h1 hg)⟩
theorem SlAt.below {lo : Nat} {W W' : World} {b : Option Addr} {sl : List Int} (h : SlAt lo W b sl) (hb : Below W.heap.size W W') : SlAt lo W' b sl := h.keep (Keeps.of_below (S := no) hb) (fun _ _ _ => id)
/-- What goOver answers. -/
def GQ (w : World) (R : Except (Int × Nat) (List Int)) (e : Ending) (w' : World) : Prop :=
  Below w.heap.size w w' ∧ match R with
  | .error (cd, a) => e = .returned (.tuple #[.slice none 0 0, .agg #[.int .i64 cd, .int .i64 (a : Nat)]])
  | .ok sl => ∃ b c, e = .returned (.tuple #[.slice b sl.length c, .agg #[.int .i64 0, .int .i64 0]]) ∧ SlAt w.heap.size w' b sl
set_option maxRecDepth 20000 in
set_option maxHeartbeats 2000000 in
theorem goOver_any (u : Nd) (hu : isN u) (hk : u.k = 1) (hM : manyN u ≤ 600) (b : Option Addr) (cap : Nat) (w : World) (hN : NdV (low w) w u (ndv u b cap)) :
    Calls Tryz.prog 15 #[ndv u b cap] w (GQ w (unitC u)) := by
  have hmf : ∀ (fn : Fn) (first cap : Array Value) (w : World), (Instr.makeFunc fn first cap).run Tryz.prog w = .ok (.func fn first cap) w := fun _ _ _ _ => rfl
  have hms := manyN_eq u
  have hkl := many_len u.kids
  have hb1 := ext_alloc (ext_alloc (Below.refl w.heap.size w) (nbx u b cap)) (.cells #[.int .i64 0, .int .i64 0] 27)
  obtain ⟨U, hU⟩ : ∃ U, (w.alloc (nbx u b cap)).alloc (.cells #[.int .i64 0, .int .i64 0] 27) = U := ⟨_, rfl⟩
  have g0 : U.heap[w.heap.size]? = some (nbx u b cap) := by rw [← hU]; exact block_alloc _ (alloc_new _ _)
  have g1 : U.heap[w.heap.size + 1]? = some (.cells #[.int .i64 0, .int .i64 0] 27) := by
    have := alloc_new (w.alloc (nbx u b cap)) (.cells #[.int .i64 0, .int .i64 0] 27)
    rw [World.size_alloc] at this
    rw [← hU]; exact this
  rw [hU] at hb1
  have hlw : w.heap.size ≤ U.heap.size := hb1.size
  have hNU : NdV (low U) U u (ndv u b cap) := (hN.below hb1).weak (fun q hq _ => Nat.lt_of_lt_of_le hq hlw)
  have hnew := new_any u b cap U hNU (by omega)
  obtain ⟨k0, t0, n0, ks⟩ := u
  replace hU : (w.alloc (.cells #[.int .i64 k0, sk t0, .int .i64 n0, .slice b ks.length cap] 24)).alloc (.cells #[.int .i64 0, .int .i64 0] 27) = U := hU
  obtain ⟨c0, c1, c2, c3, _, _, _, _⟩ := in4 g0
  simp only at c0 c1 c2 c3
  have hKU := KA.of hNU
  obtain ⟨R, hR⟩ : ∃ R, unitC ⟨k0, t0, n0, ks⟩ = R := ⟨_, rfl⟩
  have hunit := fun B fm O W (h : Ck U B ⟨k0, t0, n0, ks⟩ b cap fm O [] [] 0 W) => unit_any ⟨k0, t0, n0, ks⟩ hu hk U B b cap fm O W h hKU (by omega)
  rw [hR] at hunit ⊢
  clear hN hNU hKU hR hu
  cases R with
  | error x =>
    obtain ⟨cd, a⟩ := x
    have hun : ∀ B fm O W, Ck U B ⟨k0, t0, n0, ks⟩ b cap fm O [] [] 0 W → Calls Tryz.prog 26 #[.pointer (some ⟨B, 0, none⟩)] W fun e W' => e = .panicked (pan (flt cd a)) ∧ Below U.heap.size U W' := fun B fm O W h => (hunit B fm O W h).mono fun e W' hq => by
      rcases hq with ⟨cd', a', e1, e2, e3⟩ | ⟨_, e1, _⟩
      · cases e1
        exact ⟨e2, e3⟩
      · cases e1
    replace hun : Hid _ := hun
    clear hunit
    go_enter_defers Tryz.func15, Tryz.ntmps15
    go_wp2_with (go_at_call 25; refine hnew.mono ?_; rintro e w1 ⟨B, rfl, fm, O, hC⟩; refine Hid.out ?_)
    have hu1 := hun.out B fm O w1 hC
    refine Lib.hid ?_
    go_wp2_with (go_at_call 26; refine hu1.mono ?_; rintro e w2 ⟨rfl, hb2⟩)
    have g2 := block_below hb2 g1
    refine leaves_cons (f := 24) (args := #[.pointer (some ⟨w.heap.size + 1, 0, none⟩)]) (by simp) (by simp [go_sem]) ?_
    refine (catch2_flt _ _ _ _ _ _ _ g2).mono ?_
    rintro e u' w'' ⟨rfl, rfl, rfl⟩
    have xb := ext_alloc (Below.refl _ (pu2 w2 (w.heap.size + 1) (.int .i64 cd) (.int .i64 (a : Nat)))) (.cells #[.int .i64 cd, .int .i64 (a : Nat)] 27)
    have x2 := block_below xb (pu2_same (.int .i64 cd) (.int .i64 (a : Nat)) g2)
    refine ⟨_, res15 rfl rfl x2, ?_, rfl⟩
    have hk : Keeps (fun q => q = w.heap.size + 1) U (pu2 w2 (w.heap.size + 1) (.int .i64 cd) (.int .i64 (a : Nat))) := (Keeps.of_below hb2).trans (pu2_self _ _ _ _)
    exact (((Keeps.of_below (S := no) hb1).then hk (fun q hq e => by omega)).trans (Keeps.of_below xb)).below (Nat.le_refl _) (fun _ _ => id)
  | ok sl' =>
    have hun : ∀ B fm O W, Ck U B ⟨k0, t0, n0, ks⟩ b cap fm O [] [] 0 W → Calls Tryz.prog 26 #[.pointer (some ⟨B, 0, none⟩)] W fun e W' => e = .returned (.tuple #[]) ∧ ∃ O', Ck U B ⟨k0, t0, n0, ks⟩ b cap fm O' sl' [] 0 W' := fun B fm O W h => (hunit B fm O W h).mono fun e W' hq => by
      rcases hq with ⟨cd', a', e1, e2, e3⟩ | ⟨s2, e1, e2, O', e3, _⟩
      · cases e1
      · cases e1
        exact ⟨e2, O', e3⟩
    replace hun : Hid _ := hun
    clear hunit
    go_enter_defers Tryz.func15, Tryz.ntmps15
    go_wp2_with (go_at_call 25; refine hnew.mono ?_; rintro e w1 ⟨B, rfl, fm, O, hC⟩; refine Hid.out ?_)
    have hu1 := hun.out B fm O w1 hC
    refine Lib.hid ?_
    go_wp2_with (go_at_call 26; refine hu1.mono ?_; rintro e w2 ⟨rfl, O', hC2⟩; obtain ⟨⟨sb, sc, bb, bc, ms, h1, h2, _⟩, hB2, hO2, _, _, hb2⟩ := hC2; have g2 := block_below hb2 g1; have c5 : w2.cell? ⟨B, 5, none⟩ = some (.slice sb sl'.length sc) := cell_block h1 rfl; have d0 : w2.cell? ⟨w.heap.size + 1, 0, none⟩ = some (.int .i64 0) := cell_block g2 rfl; have d1 : w2.cell? ⟨w.heap.size + 1, 1, none⟩ = some (.int .i64 0) := cell_block g2 rfl; have e0 : w2.frozen? ⟨w.heap.size + 1, 0, none⟩ = false := frozen_block g2; have e1 : w2.frozen? ⟨w.heap.size + 1, 1, none⟩ = false := frozen_block g2)
    have x2 := pu2_same (.int .i64 0) (.int .i64 0) g2
    refine leaves_cons (f := 24) (args := #[.pointer (some ⟨w.heap.size + 1, 0, none⟩)]) (by simp) (by simp [go_sem]) ?_
    refine (catch2_idle _ _).mono ?_
    rintro e u' w'' ⟨rfl, rfl, rfl⟩
    refine ⟨_, res15 rfl rfl x2, ?_, sb, sc, rfl, ?_⟩
    · have hk : Keeps (fun q => q = w.heap.size + 1) U (pu2 w2 (w.heap.size + 1) (.int .i64 0) (.int .i64 0)) := (Keeps.of_below hb2).trans (pu2_self _ _ _ _)
      exact ((Keeps.of_below (S := no) hb1).then hk (fun q hq e => by omega)).below (Nat.le_refl _) (fun _ _ => id)
    · refine SlAt.mono (SlAt.of (base := U.heap.size) (c := sc) (own_keepT h2 (fun q e _ => ?_))) hlw
      have hbase : U.heap.size ≤ q := by
        rcases h2.2 with ⟨e2, _⟩ | ⟨g, cap2, cur, e2, hbase, hg, _⟩
        · rw [e2] at e; simp [Value.ownBlock] at e
        · rw [e2] at e
          simp [Value.ownBlock] at e
          omega
      have := block_lt g1
      exact pu2_other _ _ (by omega)
end Go.Proofs.YtnnppenlfocgiaaGreatDoor
