/- The program's reader: what stands behind; signs ahead; rows. The program's reader: signs ahead. The program's reader: no sign ahead; rows. The program's reader: rows of operations. The program's reader: what a call leaves, both ways; the next pair; a loop's body. The program's reader: an expression that is one token. The program's reader: an expression that is one token: texts, words. -/
import Derived.Test.YtnnppenlfocgiaaGreatDoorK13
import Derived.Deep.RegionHeld2
import Derived.Deep.DeepCutAuto
import Derived.Test.YtnnppenlfocgiaaGreatDoorK10
namespace Go.Proofs.YtnnppenlfocgiaaGreatDoor
open Go.RowKit
open Go

theorem suf_of (f : Nat) (hE : ∀ g, g ≤ f → ExprC g) : SufC (f + 1) := by
  intro x b cap D r B ts i w hC hx hS hP
  rw [P] at hP
  split at hP
  · rename_i h
    exact suf_index f (hE f (Nat.le_refl _)) x b cap D r B ts i w hC hx hS h hP
  · rename_i h
    exact suf_args f hE x b cap D r B ts i w hC hx hS h hP

def SimC (f : Nat) : Prop := ∀ (r : PRes) (B : Nat) (ts : List Tok) (i : Nat) (w : World), Ctx w B ts i → P f 3 nil0 0 (rest ts i) = some r → Calls Tryz.prog 149 #[.pointer (some ⟨B, 0, none⟩)] w (PAns no w B ts r)
theorem res175 {tm : Array Value} {W : World} {B : Nat} {a b c d : Value} (h : tm[2]?.getD undef = .pointer (some ⟨B, 0, none⟩)) (hx : W.heap[B]? = some (.cells #[a, b, c, d] 24)) : (results Tryz.f143 tm).run Tryz.prog W = .ok (.agg #[a, b, c, d]) W := by
  obtain ⟨c0, c1, c2, c3, _, _, _, _⟩ := in4 hx
  simp [results, Tryz.results143, go_sem, h, c0, c1, c2, c3]
/-- Between two of those behind. -/
def SufI (f t : Nat) (w : World) (B : Nat) (ts : List Tok) (r : PRes) (k : Nat) (wr : World) : Prop :=
  ∃ (n : Nd) (j : Nat) (b : Option Addr) (cap : Nat), wr.heap[t]? = some (nbx n b cap) ∧ wr.heap[w.heap.size]? = some zbx ∧ NdV (fun g => w.heap.size ≤ g ∧ g ≠ w.heap.size ∧ g ≠ t) wr n (ndv n b cap) ∧ Rd wr B ts j ∧ Keeps (fun k => k = B) w wr ∧ k ≤ f ∧ P k 4 n 0 (rest ts j) = some r
set_option maxRecDepth 20000 in
set_option maxHeartbeats 4000000 in
theorem sfxd_of (f : Nat) (hM : SimC f) (hF : ∀ g, g < f → SufC g) (r : PRes) (B : Nat) (ts : List Tok) (i : Nat) (w : World) (hC : Ctx w B ts i) (hP : (P f 3 nil0 0 (rest ts i)).on (fun n l => P f 4 n 0 l) = some r) : Calls Tryz.prog 143 #[.pointer (some ⟨B, 0, none⟩)] w (PAns no w B ts r) := by
  obtain ⟨r0, hr0, hr1⟩ := on_some hP
  have hEE := hM r0 B ts i _ (hC.below (ext_alloc (Below.refl _ _) zbx)) hr0
  have h2 := alloc_new w zbx
  have hBw := hC.R.lt
  have hk0 : Keeps (fun k => k = B) w (w.alloc zbx) := Keeps.of_below (ext_alloc (Below.refl _ _) _)
  replace hr1 : Hid _ := hr1
  clear hP hr0 hM
  go_enter Tryz.func143, Tryz.ntmps143
  go_wp2_with (go_at_call 149; refine hEE.mono ?_; intro e w1 hA; rcases r0 with l1 | ⟨n1, l1⟩; (obtain ⟨j, hj, hle, rfl, hk1⟩ := hA; rcases hr1.out with ⟨l, e1, e2⟩ | ⟨n, l, e1, _⟩; (cases e1; subst e2; exact ⟨rfl, close_pan hj hle (hk0.trans hk1)⟩); cases e1); obtain ⟨j, b1, cap1, hj, rfl, hN1, hR1, hk1⟩ := hA)
  rcases hr1.out with ⟨l, e1, _⟩ | ⟨n, l, e1, hr2⟩
  · cases e1
  cases e1
  have g2 := hk1.box h2 (by omega)
  have hz := block_lt g2
  have hb1 : Below w1.heap.size w1 (w1.alloc (nbx n1 b1 cap1)) := ext_alloc (Below.refl _ _) _
  have hI : SufI f w1.heap.size w B ts r f (w1.alloc (nbx n1 b1 cap1)) := ⟨n1, j, b1, cap1, alloc_new _ _, block_below hb1 g2, (hN1.weak (fun g hg hlt => by simp at hg; exact ⟨by omega, by omega, by omega⟩)).below hb1, hR1.below hb1, (hk0.trans hk1).trans (Keeps.of_below hb1), Nat.le_refl _, by rw [hj]; exact hr2⟩
  obtain ⟨t, ht⟩ : ∃ t, w1.heap.size = t := ⟨_, rfl⟩
  obtain ⟨W1, hW1⟩ : ∃ W1, w1.alloc (nbx n1 b1 cap1) = W1 := ⟨_, rfl⟩
  rw [hW1] at hI
  dsimp only [nbx] at hW1
  rw [hW1]
  rw [ht] at hI hz ⊢
  clear hW1 ht hr1 hr2 hN1 hR1 hk1 g2 h2 hk0 hb1 hEE
  go_loopg [8] f (fun k _ wr => SufI f t w B ts r k wr)
  case atStart => exact hI
  case round =>
    clear hI
    obtain ⟨n, j, b, cap, g3, g2, hN, hR, hk, hgf, hr⟩ := hrel
    have hCr := hC.on hR
    cases gk with
    | zero => cases hr
    | succ g =>
      rw [P] at hr
      have hSee := hCr.sees2 pl_lb pl_lp wr (Below.refl _ _)
      by_cases hy : tx (rest ts j) = S.lb ∨ tx (rest ts j) = S.lp
      · rw [decide_eq_true hy] at hSee
        rw [if_pos hy] at hr
        obtain ⟨r1, hr1, hr2⟩ := on_some hr
        have hFF := fun u (hb : Below wr.heap.size wr u) => hF g (by omega) n b cap _ r1 B ts j u (hCr.below hb) (hN.below hb) (fun g hg => by omega) hr1
        replace hr2 : Hid _ := hr2
        clear hr hr1 hF
        go_wp2_with (first | (go_at_call 84; refine hSee.mono ?_; rintro e w4 ⟨rfl, hb4⟩; have q3 := block_below hb4 g3; obtain ⟨c0, c1, c2, c3, f0, f1, f2, f3⟩ := in4 q3) | (go_at_call 132; refine (hFF _ hb4).mono ?_; intro e w5 hA; rcases r1 with l1 | ⟨n2, l2⟩; (obtain ⟨j2, hj2, hle, rfl, hk5⟩ := hA; rcases hr2.out with ⟨l, e1, e2⟩ | ⟨n, l, e1, _⟩; (cases e1; subst e2; exact ⟨rfl, close_pan hj2 hle ((hk.trans (Keeps.of_below hb4)).trans hk5)⟩); cases e1); obtain ⟨j2, b2, cap2, hj2, rfl, hN5, hR5, hk5⟩ := hA; have q3 := hk5.box q3 (by omega); obtain ⟨c0, c1, c2, c3, f0, f1, f2, f3⟩ := in4 q3))
        rcases hr2.out with ⟨l, e1, _⟩ | ⟨n', l, e1, hr3⟩
        · cases e1
        cases e1
        have hz5 := hb4.size
        have hzt := block_lt g3
        go_roundg g
        case measure => omega
        case rel => exact ⟨n2, j2, b2, cap2, put4_same _ _ _ _ q3, (put4_other _ _ _ _ (by omega)).trans (hk5.box (block_below hb4 g2) (by omega)), (hN5.weak (fun g hg hlt => by rcases hg with hg | hg; exact hg; exact ⟨by omega, by omega, by omega⟩)).put4 _ _ _ _ _ (fun g hg => hg.2.2), hR5.put4 _ _ _ _ _ (by omega), put4_keeps ((hk.trans (Keeps.of_below hb4)).trans hk5) _ _ _ _ _ (by omega), by omega, by rw [hj2]; exact hr3⟩
      · rw [decide_eq_false hy] at hSee
        rw [if_neg hy] at hr
        replace hr : Hid _ := hr
        go_wp2_with (go_at_call 84; refine hSee.mono ?_; rintro e w4 ⟨rfl, hb4⟩; have q3 := block_below hb4 g3; have q2 := block_below hb4 g2; obtain ⟨c0, c1, c2, c3, f0, f1, f2, f3⟩ := in4 q3; obtain ⟨d0, d1, d2, d3, e0, e1, e2, e3⟩ := in4 q2)
        refine bodyPost_ret (res175 rfl (put4_same _ _ _ _ q2)) rfl ?_
        obtain rfl := Option.some.inj hr.out
        exact close_ret rfl ((hN.below hb4).weak (fun g hg _ => ⟨.inr hg.1, hg.2.1⟩)) (hR.below hb4) (hk.trans (Keeps.of_below hb4)) (Nat.le_refl _) hBw
end Go.Proofs.YtnnppenlfocgiaaGreatDoor
namespace Go.Proofs.YtnnppenlfocgiaaGreatDoor
open Go.RowKit
open Go

/-- A map lies there. -/
def LkM (m : Nat) (o : Obj) (u : World) : Prop := u.heap[m]? = some o
theorem LkM.alloc {m : Nat} {o : Obj} (u : World) (o' : Obj) (h : LkM m o u) : LkM m o (u.alloc o') := block_alloc o' h
theorem LkM.drew {m : Nat} {o : Obj} (u : World) (h : LkM m o u) : LkM m o u.drew := h
theorem LkM.drewN {m : Nat} {o : Obj} (u : World) (n : Nat) (h : LkM m o u) : LkM m o (u.drewN n) := h
theorem LkM.below {m : Nat} {o : Obj} {u w' : World} (h : LkM m o u) (hb : Below u.heap.size u w') : LkM m o w' := block_below hb h
theorem look_int {u : World} {m : Nat} {kv : List (List UInt8 × Value)} (hd : (kv.map (·.1)).Nodup) (h : LkM m (mapObj sk kv) u) (s : List UInt8) : (Instr.lookup 63 (.map (some m)) (sk s) true).run Tryz.prog u = .ok (.tuple #[(kv.lookup s).getD (ik 0), .bool (kv.lookup s).isSome]) u := by
  have := run_look (P := Tryz.prog) (w := u) (T := 63) (K := 9) (E := 3) (kf := sk) (kv := kv) (B := m) Tryz.underlying63 Tryz.underlying9 key_str h hd (z := ik 0) (by kernel_rfl) s true
  rw [if_pos rfl] at this
  exact this
def SgnC (f : Nat) : Prop := ∀ (r : PRes) (B : Nat) (ts : List Tok) (i : Nat) (w : World), Ctx w B ts i → P f 1 nil0 0 (rest ts i) = some r → Calls Tryz.prog 138 #[.pointer (some ⟨B, 0, none⟩)] w (PAns no w B ts r)
theorem res169 {tm : Array Value} {W : World} {B : Nat} {a b c d : Value} (h : tm[2]?.getD undef = .pointer (some ⟨B, 0, none⟩)) (hx : W.heap[B]? = some (.cells #[a, b, c, d] 24)) : (results Tryz.f138 tm).run Tryz.prog W = .ok (.agg #[a, b, c, d]) W := by
  obtain ⟨c0, c1, c2, c3, _, _, _, _⟩ := in4 hx
  simp [results, Tryz.results138, go_sem, h, c0, c1, c2, c3]
theorem pl_mi : plainS S.mi := ⟨_, _, rfl, rfl⟩
theorem pl_hs : plainS S.hs := ⟨_, _, rfl, rfl⟩
theorem pl_not : plainS W.not_ := ⟨_, _, rfl, rfl⟩
/-- A node of one kid, in the answer's box. -/
theorem close_one {w : World} {B : Nat} {ts : List Tok} {x : Nd} {b : Option Addr} {cap : Nat} {l : List PT} {j : Nat} {W : World} {t : Nat} {a0 a1 a2 a3 : Value} (k : Int) (hj : rest ts j = l) (hN : NdV (fun g => w.heap.size ≤ g ∧ g ≠ t) W x (ndv x b cap)) (hR : Rd W B ts j) (hk : Keeps (fun k => k = B) w W) (ht : w.heap.size ≤ t) (hB : B < w.heap.size) (g : W.heap[t]? = some (.cells #[a0, a1, a2, a3] 24)) :
    PAns no w B ts (.inr (nd k [x], l)) (.returned (ndv (nd k [x]) (some ⟨W.heap.size, 0, none⟩) 1)) (put4 (W.alloc (nbx x b cap)) t (.int .i64 k) (sk []) (.int .i64 0) (.slice (some ⟨W.heap.size, 0, none⟩) 1 1)) := by
  have hlt := block_lt g
  have hsz := hk.size
  obtain ⟨h1, h2, h3⟩ := one_box (D := fun g => w.heap.size ≤ g ∧ g ≠ t) k 0 hN (fun g hg => hg.2) ⟨hsz, by omega⟩ g rfl
  refine ⟨j, _, 1, hj, rfl, (h1.node k [] 0).weak (fun g hg _ => .inr hg.1), hR.keep h3 (fun g hg => by omega), hk.then h3 (fun q hq e => by omega)⟩
set_option maxRecDepth 20000 in
set_option maxHeartbeats 4000000 in
theorem sgn_sign (f : Nat) (s : List UInt8) (hs : plainS s) (k : Int) (hkv : signsKV.lookup s = some (ik k)) (hG : SgnC f) (r : PRes) (B : Nat) (ts : List Tok) (i : Nat) (w : World) (hC : Ctx w B ts i) (htx : tx (rest ts i) = s) (hP : (P f 1 nil0 0 (rest ts i).tail).on (fun x l => .ok (nd k [x]) l) = some r) : Calls Tryz.prog 138 #[.pointer (some ⟨B, 0, none⟩)] w (PAns no w B ts r) := by
  rw [rest_tail] at hP
  obtain ⟨r0, hr0, hr1⟩ := on_some hP
  have hEE := fun u h => hG r0 B ts (i + 1) u h hr0
  have h2 := alloc_new w zbx
  have hBw := hC.R.lt
  have hlt := tx_lt htx (plain_ne hs)
  have hsh := hC.R.short
  have hb0 : Below w.heap.size w (w.alloc zbx) := ext_alloc (Below.refl _ _) _
  obtain ⟨m1, m2, m3, m4, m5, b, cap, h1, _, hW, _⟩ := (hC.R.below hb0).box
  obtain ⟨c0, c1, c2, c3, c4, c5, c6, f6⟩ := rdC h1
  have hWd := fun u (hb : Below w.heap.size w u) => word_any B ts i u (hC.R.below hb)
  rw [(hC.is hs).2 htx] at hWd
  have q0 : LkM m4 (mapObj sk signsKV) (w.alloc zbx) := hW.h4
  have hL := fun u h => look_int (u := u) (m := m4) (kv := signsKV) (by decide) h s
  rw [hkv] at hL
  simp only [Option.getD_some, Option.isSome_some] at hL
  replace hr1 : Hid _ := hr1
  replace h1 : Hid _ := h1
  clear hP hr0 hG hkv hW
  go_enter Tryz.func138, Tryz.ntmps138
  go_wp2
  have q1 := LkM.drew (m := m4) (o := mapObj sk signsKV)
  go_region_with ((go_at_call 98; refine (hWd _ (hb0.drew)).mono ?_; rintro e w1 ⟨rfl, hb1⟩; have hR1 := (hC.R.below (hb0.drew)).below hb1; have q3 := LkM.below (LkM.drew _ q0) hb1; have c3 := cellB (W := (w.alloc zbx).drew) hb1 c3))
  all_goals
    obtain ⟨n1, n2, n3, n4, n5, b', cap', h1', _⟩ := hR1.box
    obtain ⟨d0, d1, d2, d3, d4, d5, d6, e6⟩ := rdC h1'
    have g2 := block_below hb1 (W := (w.alloc zbx).drew) h2
    have hk1 : Keeps (fun k => k = B) w (w1.setCell ⟨B, 6, none⟩ (.int .i64 ((i : Nat) + 1))) := (Keeps.of_below (ext_trans (hb0.drew) hb1)).set B 6 _ (fun _ => rfl)
    have hR2 := hR1.go (j := i + 1) hlt
    have g2' : (w1.setCell ⟨B, 6, none⟩ (.int .i64 ((i : Nat) + 1))).heap[w.heap.size]? = some zbx := (set1_other _ _ (by omega)).trans g2
    obtain ⟨W2, hW2⟩ : ∃ W2, w1.setCell ⟨B, 6, none⟩ (.int .i64 ((i : Nat) + 1)) = W2 := ⟨_, rfl⟩
    rw [hW2] at hk1 g2'
    have hR2 : Rd W2 B ts (i + 1) := hW2 ▸ hR2
    clear hL q0 q1 q3 c0 c1 c2 c3 c4 c5 c6 f6 hR1 h1' g2 hWd
    go_wp2_with (go_at_call 138; refine (hEE _ (hC.on hR2)).mono ?_; intro e w3 hA; rcases r0 with l1 | ⟨n1, l1⟩; (obtain ⟨j, hj, hle, rfl, hk3⟩ := hA; rcases hr1.out with ⟨l, e1, e2⟩ | ⟨n, l, e1, _⟩; (cases e1; subst e2; exact ⟨rfl, close_pan hj hle (hk1.trans hk3)⟩); cases e1); obtain ⟨j, b1, cap1, hj, rfl, hN3, hR3, hk3⟩ := hA; have g3 := hk3.box g2' (by omega); obtain ⟨u0, u1, u2, u3, v0, v1, v2, v3⟩ := in4a g3)
    rcases hr1.out with ⟨l, e1, _⟩ | ⟨n, l, e1, hr2⟩
    · cases e1
    cases e1
    obtain rfl := Option.some.inj hr2
    refine bodyPost_ret (res169 rfl (put4_same _ _ _ _ (block_alloc _ g3))) rfl ?_
    exact close_one k hj (hN3.weak (fun g hg _ => by have := hk1.size; have := block_lt g2'; rcases hg with hg | hg; exact hg.elim; exact ⟨by omega, by omega⟩)) hR3 (hk1.trans hk3) (Nat.le_refl _) hBw g3
end Go.Proofs.YtnnppenlfocgiaaGreatDoor
namespace Go.Proofs.YtnnppenlfocgiaaGreatDoor
open Go.RowKit
open Go

set_option maxRecDepth 20000 in
set_option maxHeartbeats 4000000 in
theorem sgn_none (r : PRes) (B : Nat) (ts : List Tok) (i : Nat) (w : World) (hC : Ctx w B ts i) (hn : signsKV.lookup (wd ts i) = none) (hX : ∀ u, Ctx u B ts i → Calls Tryz.prog 143 #[.pointer (some ⟨B, 0, none⟩)] u (PAns no u B ts r)) : Calls Tryz.prog 138 #[.pointer (some ⟨B, 0, none⟩)] w (PAns no w B ts r) := by
  have h2 := alloc_new w zbx
  have hBw := hC.R.lt
  have hb0 : Below w.heap.size w (w.alloc zbx) := ext_alloc (Below.refl _ _) _
  obtain ⟨m1, m2, m3, m4, m5, b, cap, h1, _, hW, _⟩ := (hC.R.below hb0).box
  obtain ⟨c0, c1, c2, c3, c4, c5, c6, f6⟩ := rdC h1
  have hWd := fun u (hb : Below w.heap.size w u) => word_any B ts i u (hC.R.below hb)
  have q0 : LkM m4 (mapObj sk signsKV) (w.alloc zbx) := hW.h4
  have hL := fun u h => look_int (u := u) (m := m4) (kv := signsKV) (by decide) h (wd ts i)
  rw [hn] at hL
  simp only [Option.getD_none, Option.isSome_none] at hL
  obtain ⟨s, hs⟩ : ∃ s, wd ts i = s := ⟨_, rfl⟩
  rw [hs] at hL hWd
  clear hW h1 hn hs
  go_enter Tryz.func138, Tryz.ntmps138
  go_wp2
  go_region_with ((go_at_call 98; refine (hWd _ (hb0.drew)).mono ?_; rintro e w1 ⟨rfl, hb1⟩; have hC1 := hC.below (ext_trans (hb0.drew) hb1); have q3 := LkM.below (LkM.drew _ q0) hb1; have c3 := cellB (W := (w.alloc zbx).drew) hb1 c3))
  all_goals
    have hXX := hX _ hC1
    have g2 := block_below hb1 (W := (w.alloc zbx).drew) h2
    have hk1 : Keeps (fun k => k = B) w w1 := Keeps.of_below (ext_trans (hb0.drew) hb1)
    clear hL q0 q3 c0 c1 c2 c3 c4 c5 c6 f6 hWd hX
    rcases r with l1 | ⟨n1, l1⟩
    · go_wp2_with (go_at_call 143; refine hXX.mono ?_; rintro e w3 ⟨j, hj, hle, rfl, hk3⟩)
      exact ⟨rfl, close_pan hj hle (hk1.trans hk3)⟩
    · go_wp2_with (go_at_call 143; refine hXX.mono ?_; rintro e w3 ⟨j, b1, cap1, hj, rfl, hN3, hR3, hk3⟩; have g3 := hk3.box g2 (by omega); obtain ⟨u0, u1, u2, u3, v0, v1, v2, v3⟩ := in4 g3)
      refine bodyPost_ret (res169 rfl (put4_same _ _ _ _ g3)) rfl ?_
      exact close_ret hj (hN3.weak (fun g hg _ => by have := hk1.size; have := block_lt g2; rcases hg with hg | hg; exact hg.elim; exact ⟨.inr (by omega), by omega⟩)) hR3 (hk1.trans hk3) (Nat.le_refl _) hBw

theorem sgn_of (f : Nat) (hM : SimC f) (hF : ∀ g, g < f → SufC g) (hG : SgnC f) : SgnC (f + 1) := by
  intro r B ts i w hC hP
  rw [P] at hP
  split at hP
  · rename_i h; exact sgn_sign f _ pl_mi 24 rfl hG r B ts i w hC h hP
  split at hP
  · rename_i h; exact sgn_sign f _ pl_not 23 rfl hG r B ts i w hC h hP
  split at hP
  · rename_i h; exact sgn_sign f _ pl_hs 25 rfl hG r B ts i w hC h hP
  rename_i a1 a2 a3
  refine sgn_none r B ts i w hC (look_none ?_) (fun u h => sfxd_of f hM hF r B ts i u h hP)
  intro p hp
  simp only [signsKV, List.mem_cons, List.not_mem_nil, or_false] at hp
  rcases hp with rfl | rfl | rfl
  · exact fun e => a1 ((hC.is pl_mi).1 e.symm)
  · exact fun e => a2 ((hC.is pl_not).1 e.symm)
  · exact fun e => a3 ((hC.is pl_hs).1 e.symm)

/-- Operations in their map. -/
theorem look_op {u : World} {m : Nat} (h : LkM m (mapObj sk operatorsKV) u) (s : List UInt8) : (Instr.lookup 78 (.map (some m)) (sk s) false).run Tryz.prog u = .ok ((operatorsKV.lookup s).getD (.agg #[.int .i64 0, .int .i64 0])) u := by
  have := run_look (P := Tryz.prog) (w := u) (T := 78) (K := 9) (E := 104) (kf := sk) (kv := operatorsKV) (B := m) Tryz.underlying78 Tryz.underlying9 key_str h (by decide) (z := .agg #[.int .i64 0, .int .i64 0]) (by kernel_rfl) s false
  rw [if_neg (by decide)] at this
  exact this
theorem op_look (s : List UInt8) : operatorsKV.lookup s = (opAt s).map fun p => .agg #[.int .i64 p.1, .int .i64 ((p.2 + 1 : Nat) : Int)] := by
  unfold operatorsKV opAt
  have e : ∀ l : List (List UInt8 × Int × Nat), (l.map fun p => (p.1, Value.agg #[.int .i64 p.2.1, .int .i64 ((p.2.2 + 1 : Nat) : Int)])).lookup s = ((l.find? (fun p => p.1 == s)).map (fun p => p.2)).map fun p => .agg #[.int .i64 p.1, .int .i64 ((p.2 + 1 : Nat) : Int)] := fun l => by
    induction l with
    | nil => rfl
    | cons a l ih =>
      simp only [List.map_cons, List.lookup_cons, List.find?_cons]
      by_cases hs : a.1 = s
      · subst hs; simp
      · have h1 : (s == a.1) = false := by simpa using fun e => hs e.symm
        have h2 : (a.1 == s) = false := by simpa using hs
        rw [h1, h2]
        exact ih
  exact e opsL
theorem opAt_wd {w : World} {B : Nat} {ts : List Tok} {i : Nat} (hC : Ctx w B ts i) : opAt (wd ts i) = opAt (tx (rest ts i)) := by
  have hpl : ∀ p ∈ opsL, plainS p.1 := by
    intro p hp
    simp only [opsL, List.mem_cons, List.not_mem_nil, or_false] at hp
    rcases hp with rfl | rfl | rfl | rfl | rfl | rfl | rfl | rfl | rfl | rfl | rfl <;> exact ⟨_, _, rfl, rfl⟩
  have e : ∀ l : List (List UInt8 × Int × Nat), (∀ p ∈ l, plainS p.1) → l.find? (fun p => p.1 == wd ts i) = l.find? (fun p => p.1 == tx (rest ts i)) := fun l => by
    induction l with
    | nil => intro _; rfl
    | cons a l ih =>
      intro h
      have h1 : (a.1 == wd ts i) = (a.1 == tx (rest ts i)) := by
        have := hC.is (h a (by simp))
        by_cases hs : wd ts i = a.1
        · rw [hs, this.1 hs]
        · have h2 : ¬ tx (rest ts i) = a.1 := fun e => hs (this.2 e)
          rw [beq_false_of_ne (fun e => hs e.symm), beq_false_of_ne (fun e => h2 e.symm)]
      simp only [List.find?_cons, h1]
      rw [ih (fun p hp => h p (by simp [hp]))]
  unfold opAt
  rw [e opsL hpl]

theorem res162 {tm : Array Value} {W : World} {B : Nat} {a b c d : Value} (h : tm[4]?.getD undef = .pointer (some ⟨B, 0, none⟩)) (hx : W.heap[B]? = some (.cells #[a, b, c, d] 24)) : (results Tryz.f135 tm).run Tryz.prog W = .ok (.agg #[a, b, c, d]) W := by
  obtain ⟨c0, c1, c2, c3, _, _, _, _⟩ := in4 hx
  simp [results, Tryz.results135, go_sem, h, c0, c1, c2, c3]
set_option maxRecDepth 20000 in
set_option maxHeartbeats 4000000 in
theorem row_sign (f : Nat) (hG : SgnC f) (r : PRes) (B : Nat) (ts : List Tok) (i : Nat) (w : World) (hC : Ctx w B ts i) (hP : P f 1 nil0 0 (rest ts i) = some r) : Calls Tryz.prog 135 #[.pointer (some ⟨B, 0, none⟩), .int .i64 7] w (PAns no w B ts r) := by
  have hE := hG r B ts i (w.alloc zbx) (hC.below (ext_alloc (Below.refl _ _) _)) hP
  have h0 := alloc_new w zbx
  have hBw := hC.R.lt
  clear hG hP
  cases r with
  | inl l =>
    go_enter Tryz.func135, Tryz.ntmps135
    go_wp2_with (go_at_call 138; refine hE.mono ?_; rintro e w1 ⟨j, hj, hle, rfl, hk⟩)
    exact ⟨rfl, close_pan hj hle ((Keeps.of_below (ext_alloc (Below.refl _ _) _)).trans hk)⟩
  | inr p =>
    obtain ⟨n, l⟩ := p
    go_enter Tryz.func135, Tryz.ntmps135
    go_wp2_with (go_at_call 138; refine hE.mono ?_; rintro e w1 ⟨j, b, cap, hj, rfl, hN, hR, hk⟩; have h1 := hk.box h0 (by omega); obtain ⟨c0, c1, c2, c3, f0, f1, f2, f3⟩ := in4 h1)
    refine bodyPost_ret (res162 rfl (put4_same _ _ _ _ h1)) rfl ?_
    exact close_ret hj (hN.weak (fun g hg _ => by simp at hg; exact ⟨.inr (by omega), by omega⟩)) hR ((Keeps.of_below (ext_alloc (Below.refl _ _) _)).trans hk) (Nat.le_refl _) hBw
end Go.Proofs.YtnnppenlfocgiaaGreatDoor
namespace Go.Proofs.YtnnppenlfocgiaaGreatDoor
open Go.RowKit
open Go

theorem wrap_small {x : Int} (h1 : 0 ≤ x) (h2 : x ≤ 100000) : IntKind.i64.wrap x = x := by
  rw [IntWalk.i64_left]
  unfold wrap64
  omega
/-- Between two operations. -/
def RowI (f t a : Nat) (w : World) (B : Nat) (ts : List Tok) (r : PRes) (k : Nat) (wr : World) : Prop :=
  ∃ (n : Nd) (j : Nat) (b : Option Addr) (cap : Nat), wr.heap[t]? = some (nbx n b cap) ∧ wr.heap[w.heap.size]? = some zbx ∧ NdV (fun g => w.heap.size ≤ g ∧ g ≠ w.heap.size ∧ g ≠ t) wr n (ndv n b cap) ∧ Rd wr B ts j ∧ Keeps (fun k => k = B) w wr ∧ k ≤ f ∧ P k 2 n a (rest ts j) = some r
set_option maxRecDepth 20000 in
set_option maxHeartbeats 4000000 in
theorem row_ops (f : Nat) (hG : ∀ g, g ≤ f → RowC g) (a : Nat) (ha : a ≤ 5) (r : PRes) (B : Nat) (ts : List Tok) (i : Nat) (w : World) (hC : Ctx w B ts i) (hP : (P f 0 nil0 (a + 1) (rest ts i)).on (fun n l => P f 2 n a l) = some r) (A : Int) (hA : A = ((a + 1 : Nat) : Int)) : Calls Tryz.prog 135 #[.pointer (some ⟨B, 0, none⟩), .int .i64 A] w (PAns no w B ts r) := by
  obtain ⟨r0, hr0, hr1⟩ := on_some hP
  have hEE := hG f (Nat.le_refl _) (a + 1) r0 B ts i _ (by omega) (hC.below (ext_alloc (Below.refl _ _) zbx)) hr0
  rw [show ((a + 1 + 1 : Nat) : Int) = A + 1 from by omega] at hEE
  have h2 := alloc_new w zbx
  have hBw := hC.R.lt
  have hk0 : Keeps (fun k => k = B) w (w.alloc zbx) := Keeps.of_below (ext_alloc (Below.refl _ _) _)
  have hA7 : ¬ A = 7 := by omega
  have hAl : 1 ≤ A := by omega
  have hAh : A ≤ 6 := by omega
  replace hr1 : Hid _ := hr1
  replace hA : Hid _ := hA
  replace ha : Hid _ := ha
  clear hP hr0
  go_enter Tryz.func135, Tryz.ntmps135
  go_wp2_with (go_at_call 135; refine hEE.mono ?_; intro e w1 hA; rcases r0 with l1 | ⟨n1, l1⟩; (obtain ⟨j, hj, hle, rfl, hk1⟩ := hA; rcases hr1.out with ⟨l, e1, e2⟩ | ⟨n, l, e1, _⟩; (cases e1; subst e2; exact ⟨rfl, close_pan hj hle (hk0.trans hk1)⟩); cases e1); obtain ⟨j, b1, cap1, hj, rfl, hN1, hR1, hk1⟩ := hA)
  rcases hr1.out with ⟨l, e1, _⟩ | ⟨n, l, e1, hr2⟩
  · cases e1
  cases e1
  have g2 := hk1.box h2 (by omega)
  have hz := block_lt g2
  have hb1 : Below w1.heap.size w1 (w1.alloc (nbx n1 b1 cap1)) := ext_alloc (Below.refl _ _) _
  have hI : RowI f w1.heap.size a w B ts r f (w1.alloc (nbx n1 b1 cap1)) := ⟨n1, j, b1, cap1, alloc_new _ _, block_below hb1 g2, (hN1.weak (fun g hg hlt => by simp at hg; exact ⟨by omega, by omega, by omega⟩)).below hb1, hR1.below hb1, (hk0.trans hk1).trans (Keeps.of_below hb1), Nat.le_refl _, by rw [hj]; exact hr2⟩
  obtain ⟨t, ht⟩ : ∃ t, w1.heap.size = t := ⟨_, rfl⟩
  obtain ⟨W1, hW1⟩ : ∃ W1, w1.alloc (nbx n1 b1 cap1) = W1 := ⟨_, rfl⟩
  rw [hW1] at hI
  dsimp only [nbx] at hW1
  rw [hW1]
  rw [ht] at hI hz ⊢
  clear hW1 ht hr1 hr2 hN1 hR1 hk1 g2 h2 hk0 hb1 hEE
  go_loopg [6] f (fun k _ wr => RowI f t a w B ts r k wr)
  case atStart => exact hI
  case round =>
    clear hI
    obtain ⟨n, j, b, cap, g3, g2, hN, hR, hk, hgf, hr⟩ := hrel
    have hCr := hC.on hR
    cases gk with
    | zero => cases hr
    | succ g =>
      rw [P, ← opAt_wd hCr] at hr
      obtain ⟨m1, m2, m3, m4, m5, b', cap', h1, _, hW, _⟩ := hR.box
      obtain ⟨c0, c1, c2, c3, c4, c5, c6, f6⟩ := rdC h1
      have hWd := fun u (hb : Below wr.heap.size wr u) => word_any B ts j u (hR.below hb)
      have q0 : LkM m2 (mapObj sk operatorsKV) wr := hW.h2
      have hL := fun u h => look_op (u := u) (m := m2) h (wd ts j)
      rw [op_look] at hL
      have hrn : ∃ o K, ((opAt (wd ts j)).map fun p => Value.agg #[.int .i64 p.1, .int .i64 ((p.2 + 1 : Nat) : Int)]).getD (.agg #[.int .i64 0, .int .i64 0]) = .agg #[.int .i64 o, .int .i64 K] ∧ ((¬ K = A ∧ r = .inr (n, rest ts j)) ∨ (K = A ∧ j < ts.length ∧ (P g 0 nil0 (a + 1) (rest ts j).tail).on (fun y l => if a = 2 then .ok ⟨22, [], o, [n, y]⟩ l else P g 2 ⟨22, [], o, [n, y]⟩ a l) = some r)) := by
        cases ho : opAt (wd ts j) with
        | none =>
          rw [ho] at hr
          exact ⟨0, 0, rfl, .inl ⟨by omega, (Option.some.inj hr).symm⟩⟩
        | some p =>
          obtain ⟨o, k⟩ := p
          rw [ho] at hr
          simp only at hr
          refine ⟨o, ((k + 1 : Nat) : Int), rfl, ?_⟩
          split at hr
          · rename_i hka
            have := op_of_at ho
            refine .inr ⟨by rw [hA.out, hka], ?_, hr⟩
            rcases Nat.lt_or_ge j ts.length with h' | h'
            · exact h'
            · exact absurd (by rw [wd_rest, rest_end h']; rfl) this.2
          · rename_i hka
            exact .inl ⟨by rw [hA.out]; omega, (Option.some.inj hr).symm⟩
      obtain ⟨o, K, hoK, hrr⟩ := hrn
      rw [hoK] at hL
      obtain ⟨s, hs⟩ : ∃ s, wd ts j = s := ⟨_, rfl⟩
      rw [hs] at hL hWd
      replace hrr : Hid _ := hrr
      clear hoK hs hr hW h1 c0 c2 c3 c4 c5
      go_wp2
      go_cut [6] (fun s6 wx => ∃ t6, s6 = .pointer (some ⟨t6, 0, none⟩) ∧ wr.heap.size ≤ t6 ∧ Below wr.heap.size wr wx ∧ wx.heap[t6]? = some (.cells #[.int .i64 o, .int .i64 K] 104))
      case first =>
        have q1 := LkM.drew (m := m2) (o := mapObj sk operatorsKV)
        have q2 := LkM.alloc (m := m2) (o := mapObj sk operatorsKV)
        have k1 := fun u o (h : Below wr.heap.size wr u) => ext_alloc h o
        have k2 := fun u (h : Below wr.heap.size wr u) => Below.drew h
        have hBlt := hR.lt
        have hBr : ¬ B = wr.heap.size := by omega
        have hBr2 : ¬ wr.heap.size = B := by omega
        have hm2 : m2 < wr.heap.size := block_lt q0
        have k3 := fun u i v (h : Below wr.heap.size wr u) => Below.setCell (p := ⟨wr.heap.size, i, none⟩) h (Nat.le_refl _) v
        have k4 := fun u i v (h : LkM m2 (mapObj sk operatorsKV) u) => show LkM m2 (mapObj sk operatorsKV) (u.setCell ⟨wr.heap.size, i, none⟩ v) from (set1_other u v (by omega)).trans h
        have k0 : Below wr.heap.size wr wr := Below.refl _ _
        go_region_held3 (fun u => u.cell? ⟨B, 1, none⟩ = some (.map (some m2)) ∧ LkM m2 (mapObj sk operatorsKV) u ∧ Below wr.heap.size wr u) (go_keep) (first
          | (go_at_call 98; refine (hWd _ ((Below.refl _ _).drew)).mono ?_; rintro e w4 ⟨rfl, hb4⟩; have hBl : Below wr.heap.size wr w4 := ext_trans ((Below.refl wr.heap.size wr).drew) hb4; have q3 : LkM m2 (mapObj sk operatorsKV) w4 := LkM.below q0 hBl; have c1 := cellB hBl c1; have hBr4 : ¬ B = w4.heap.size := by (have := hBl.size; omega))
          | (go_at_call 98; refine (hWd _ ((ext_alloc (Below.refl _ _) (.cells #[.int .i64 0, .int .i64 0] 104)).drew)).mono ?_; rintro e w4 ⟨rfl, hb4⟩; have hBl : Below wr.heap.size wr w4 := ext_trans ((ext_alloc (Below.refl wr.heap.size wr) (.cells #[.int .i64 0, .int .i64 0] 104)).drew) hb4; have q3 : LkM m2 (mapObj sk operatorsKV) w4 := LkM.below q0 hBl; have c1 := cellB hBl c1; have p6 := block_below (W := (wr.alloc (.cells #[.int .i64 0, .int .i64 0] 104)).drew) hb4 (alloc_new wr _); have z0 := cell_block (i := 0) p6 rfl; have z1 := cell_block (i := 1) p6 rfl; have y0 := frozen_block (i := 0) p6; have y1 := frozen_block (i := 1) p6))
        all_goals
          go_wp2
          go_meet
          case rel => first
            | exact ⟨_, rfl, hBl.size, ext_alloc hBl _, alloc_new _ _⟩
            | exact ⟨_, rfl, Nat.le_refl _, Below.setCell (p := ⟨wr.heap.size, 1, none⟩) (Below.setCell (p := ⟨wr.heap.size, 0, none⟩) hBl (Nat.le_refl _) _) (Nat.le_refl _) _, set_block _ (set_block _ p6)⟩
      case rest =>
        obtain ⟨t6, rfl, ht6, hb5, p6⟩ := hcut
        clear q0 hL hWd c1
        have q3' := block_below hb5 g3
        have q2' := block_below hb5 g2
        have z0 : wc.cell? ⟨t6, 0, none⟩ = some (.int .i64 o) := cell_block p6 rfl
        have z1 : wc.cell? ⟨t6, 1, none⟩ = some (.int .i64 K) := cell_block p6 rfl
        have hR5 := hR.below hb5
        have hk5 := hk.trans (Keeps.of_below hb5)
        have hN5 := hN.below hb5
        have hg3 := block_lt g3
        have hg2 := block_lt g2
        clear hR g3 g2 hN
        refine Lib.hid ?_
        rcases hrr.out with ⟨hKA, hre⟩ | ⟨hKA, hjl, hrr2⟩
        · subst hre
          clear hrr
          obtain ⟨c0, c1, c2, c3, f0, f1, f2, f3⟩ := in4 q3'
          obtain ⟨d0, d1, d2, d3, e0, e1, e2, e3⟩ := in4 q2'
          go_wp2
          refine bodyPost_ret (res162 rfl (put4_same _ _ _ _ q2')) rfl ?_
          exact close_ret rfl (hN5.weak (fun g hg _ => ⟨.inr hg.1, hg.2.1⟩)) hR5 hk5 (Nat.le_refl _) hBw
        · subst hKA
          clear hrr
          rw [rest_tail] at hrr2
          obtain ⟨r1, hr1, hr2⟩ := on_some hrr2
          have hEE := fun u h => hG g (by omega) (a + 1) r1 B ts (j + 1) u (by have := ha.out; omega) h hr1
          rw [show ((a + 1 + 1 : Nat) : Int) = IntKind.i64.wrap (K + 1) from (by rw [wrap_small (by omega) (by omega)]; have := hA.out; omega)] at hEE
          obtain ⟨n1, n2, n3, n4, n5, b', cap', h1', _⟩ := hR5.box
          obtain ⟨_, _, _, _, _, _, d6, e6⟩ := rdC h1'
          have hsh := hR5.short
          have hR6 := hR5.go (j := j + 1) hjl
          have hk6 : Keeps (fun k => k = B) w (wc.setCell ⟨B, 6, none⟩ (.int .i64 ((j : Nat) + 1))) := hk5.set B 6 _ (fun _ => rfl)
          have q36 : (wc.setCell ⟨B, 6, none⟩ (.int .i64 ((j : Nat) + 1))).heap[t]? = some (nbx n b cap) := (set1_other _ _ (by omega)).trans q3'
          have q26 : (wc.setCell ⟨B, 6, none⟩ (.int .i64 ((j : Nat) + 1))).heap[w.heap.size]? = some zbx := (set1_other _ _ (by omega)).trans q2'
          have q66 : (wc.setCell ⟨B, 6, none⟩ (.int .i64 ((j : Nat) + 1))).heap[t6]? = some (.cells #[.int .i64 o, .int .i64 K] 104) := (set1_other _ _ (by omega)).trans p6
          have hN6 := hN5.keep ((Keeps.refl (fun k => k = B) wc).set B 6 (.int .i64 ((j : Nat) + 1)) (fun _ => rfl)) (fun g hg _ => by omega)
          have hg6 := block_lt p6
          obtain ⟨W6, hW6⟩ : ∃ W6, wc.setCell ⟨B, 6, none⟩ (.int .i64 ((j : Nat) + 1)) = W6 := ⟨_, rfl⟩
          have hs6 : W6.heap.size = wc.heap.size := by rw [← hW6]; simp
          rw [hW6] at hk6 q36 q26 q66 hN6
          replace hR6 : Rd W6 B ts (j + 1) := hW6 ▸ hR6
          replace hr2 : Hid _ := hr2
          clear hrr2 hr1 hN5 hR5 hk5 q3' q2' p6 h1'
          go_wp2
          clear hW6 z0 z1 d6 e6
          obtain ⟨c0, c1, c2, c3, f0, f1, f2, f3⟩ := in4 q36
          have y0 : W6.cell? ⟨t6, 0, none⟩ = some (.int .i64 o) := cell_block q66 rfl
          have hC6 := hC.on hR6
          go_cut [1] (fun s1 wx => s1 = .int .i64 K ∧ ∃ y j2 b2 cap2, wx.heap[t]? = some (nbx ⟨22, [], o, [n, y]⟩ b2 cap2) ∧ wx.heap[w.heap.size]? = some zbx ∧ NdV (fun g => w.heap.size ≤ g ∧ g ≠ w.heap.size ∧ g ≠ t) wx ⟨22, [], o, [n, y]⟩ (ndv ⟨22, [], o, [n, y]⟩ b2 cap2) ∧ Rd wx B ts j2 ∧ Keeps (fun k => k = B) w wx ∧ (if a = 2 then PR.ok ⟨22, [], o, [n, y]⟩ (rest ts j2) else P g 2 ⟨22, [], o, [n, y]⟩ a (rest ts j2)) = some r)
          case first =>
            go_region_with ((go_at_call 135; refine (hEE _ (hC6.below ((Below.refl _ _).drew))).mono ?_; intro e w7 hA7; rcases r1 with l1 | ⟨y1, l1⟩; (obtain ⟨j2, hj2, hle, rfl, hk7⟩ := hA7; rcases hr2.out with ⟨l, e1, e2⟩ | ⟨n, l, e1, _⟩; (cases e1; subst e2; exact ⟨rfl, close_pan hj2 hle ((hk6.drew).trans hk7)⟩); cases e1); obtain ⟨j2, b2, cap2, hj2, rfl, hN7, hR7, hk7⟩ := hA7; have q37 := hk7.box q36 (by omega); have q27 := hk7.box q26 (by omega); have q67 := hk7.box q66 (by omega); obtain ⟨c0, c1, c2, c3, f0, f1, f2, f3⟩ := in4 q37; have y0 : w7.cell? ⟨t6, 0, none⟩ = some (.int .i64 o) := cell_block q67 rfl; obtain ⟨x0, x1, x2, x3, y4, y5, y6, y7⟩ := in4a q37; have y0a := fun o' => cellB (ext_alloc (Below.refl _ w7) o') y0))
            all_goals
              go_wp2
              go_meet
              case rel =>
                rcases hr2.out with ⟨l, e1, _⟩ | ⟨n', l, e1, hr3⟩
                · cases e1
                cases e1
                obtain ⟨h1, h2, h3⟩ := pair_box (D := fun g => w.heap.size ≤ g ∧ g ≠ w.heap.size ∧ g ≠ t) 22 o ((hN6.below ((Below.refl _ _).drew)).keep hk7 (fun g hg _ => by omega)) (hN7.weak (fun g hg _ => by simp at hg; exact ⟨by omega, by omega, by omega⟩)) (fun g hg => hg.2.2) ⟨by have := hk7.size; simp at this; omega, by have := block_lt q27; omega, by have := block_lt q37; omega⟩ q37 rfl
                exact ⟨rfl, y1, j2, _, _, h2, h3.box q27 (by omega), h1, hR7.keep h3 (fun g hg => by omega), ((hk6.drew).trans hk7).then h3 (fun q hq e => by omega), by rw [hj2]; exact hr3⟩
          case rest =>
            obtain ⟨rfl, y, j2, b2, cap2, p3, p2, hN8, hR8, hk8, hr8⟩ := hcut
            clear c0 c1 c2 c3 f0 f1 f2 f3 y0 hEE hr2 q36 q26 q66 hN6 hk6 hR6
            obtain ⟨c0, c1, c2, c3, f0, f1, f2, f3⟩ := in4 p3
            obtain ⟨d0, d1, d2, d3, e0, e1, e2, e3⟩ := in4 p2
            replace hr8 : Hid _ := hr8
            by_cases ha2 : a = 2
            · have hK3 : K = 3 := by have := hA.out; omega
              subst hK3
              go_wp2
              refine bodyPost_ret (res162 rfl (put4_same _ _ _ _ p2)) rfl ?_
              have hr9 := hr8.out
              rw [if_pos ha2] at hr9
              obtain rfl := Option.some.inj hr9
              exact close_ret rfl (hN8.weak (fun g hg _ => ⟨.inr hg.1, hg.2.1⟩)) hR8 hk8 (Nat.le_refl _) hBw
            · have hK3 : ¬ K = 3 := by have := hA.out; omega
              go_wp2
              go_roundg g
              case measure => omega
              case rel =>
                have hr9 := hr8.out
                rw [if_neg ha2] at hr9
                exact ⟨_, j2, b2, cap2, p3, p2, hN8, hR8, hk8, by omega, hr9⟩
end Go.Proofs.YtnnppenlfocgiaaGreatDoor
namespace Go.Proofs.YtnnppenlfocgiaaGreatDoor
open Go.RowKit
open Go

theorem row_of (f : Nat) (hG : ∀ g, g ≤ f → RowC g) (hS : SgnC f) : RowC (f + 1) := by
  intro a r B ts i w ha hC hP
  rw [P] at hP
  split at hP
  · have : a = 6 := by omega
    subst this
    exact row_sign f hS r B ts i w hC hP
  · exact row_ops f hG a (by omega) r B ts i w hC hP _ rfl

/-- A call that reads, both ways. -/
def EU (u : World) (B : Nat) (ts : List Tok) (g : Nd → List PT → PR) (r : PRes) (e : Ending) (w' : World) : Prop :=
  (∃ j, r = .inl (rest ts j) ∧ j ≤ ts.length ∧ e = .panicked (pan (gv ts j)) ∧ Keeps (fun k => k = B) u w') ∨
  (∃ n j b cap, g n (rest ts j) = some r ∧ e = .returned (ndv n b cap) ∧ NdV (fun q => u.heap.size ≤ q) w' n (ndv n b cap) ∧ Rd w' B ts j ∧ Keeps (fun k => k = B) u w')
theorem callU {F : Nat} {args : Array Value} {f tag : Nat} {x : Nd} {a : Nat} {l : List PT} {g : Nd → List PT → PR} {r : PRes} {u : World} {B : Nat} {ts : List Tok} (hP : (P f tag x a l).on g = some r) (hc : ∀ r0, P f tag x a l = some r0 → Calls Tryz.prog F args u (PAns no u B ts r0)) : Calls Tryz.prog F args u (EU u B ts g r) := by
  obtain ⟨r0, h0, h1⟩ := on_some hP
  refine (hc r0 h0).mono ?_
  intro e w' hA
  rcases h1 with ⟨l, rfl, rfl⟩ | ⟨n, l, rfl, h1⟩
  · obtain ⟨j, rfl, hle, rfl, hk⟩ := hA
    exact .inl ⟨j, rfl, hle, rfl, hk⟩
  · obtain ⟨j, b, cap, rfl, rfl, hN, hR, hk⟩ := hA
    exact .inr ⟨n, j, b, cap, h1, rfl, hN.weak (fun q hq _ => hq.resolve_left id), hR, hk⟩
def WU (u : World) (B : Nat) (ts : List Tok) (i : Nat) (g : List PT → PR) (r : PRes) (e : Ending) (w' : World) : Prop :=
  (r = .inl (rest ts i) ∧ i ≤ ts.length ∧ e = .panicked (pan (gv ts i)) ∧ Keeps (fun k => k = B) u w') ∨
  (g (rest ts (i + 1)) = some r ∧ e = .returned (.tuple #[]) ∧ Rd w' B ts (i + 1) ∧ Keeps (fun k => k = B) u w')
theorem Ctx.wantsU {w : World} {B : Nat} {ts : List Tok} {i : Nat} (h : Ctx w B ts i) {s : List UInt8} (hs : plainS s) {g : List PT → PR} {r : PRes} (hP : need s (rest ts i) g = some r) (u : World) (hb : Below w.heap.size w u) : Calls Tryz.prog 82 #[.pointer (some ⟨B, 0, none⟩), .slice (some ⟨u.heap.size, 0, none⟩) 1 1] (u.alloc (.cells #[sk s] 9)) (WU u B ts i g r) := by
  rcases need_some hP with ⟨hy, h2⟩ | ⟨hy, rfl⟩
  · rw [rest_tail] at h2
    refine (h.wants_yes hs hy u hb).mono ?_
    rintro e w1 ⟨rfl, hR, hk⟩
    exact .inr ⟨h2, rfl, hR, hk⟩
  · refine (h.wants_no hs hy u hb).mono ?_
    rintro e w1 ⟨rfl, hb1⟩
    exact .inl ⟨rfl, h.R.le, rfl, Keeps.of_below hb1⟩
def NU (u : World) (B : Nat) (ts : List Tok) (i : Nat) (g : List UInt8 → List PT → PR) (r : PRes) (e : Ending) (w' : World) : Prop :=
  (r = .inl (rest ts i) ∧ i ≤ ts.length ∧ e = .panicked (pan (gv ts i)) ∧ Keeps (fun k => k = B) u w') ∨
  (∃ s, g s (rest ts (i + 1)) = some r ∧ e = .returned (sk s) ∧ Rd w' B ts (i + 1) ∧ Keeps (fun k => k = B) u w')
theorem Ctx.nameU {w : World} {B : Nat} {ts : List Tok} {i : Nat} (h : Ctx w B ts i) {g : List UInt8 → List PT → PR} {r : PRes} (hP : needName (rest ts i) g = some r) (u : World) (hb : Below w.heap.size w u) : Calls Tryz.prog 83 #[.pointer (some ⟨B, 0, none⟩)] u (NU u B ts i g r) := by
  have hR := h.R.below hb
  cases hx : ts[i]? with
  | none =>
    have hre := rest_end (List.getElem?_eq_none_iff.1 hx)
    have : r = .inl (rest ts i) := by
      unfold needName at hP
      rw [hre] at hP ⊢
      rw [if_neg (by decide)] at hP
      exact (Option.some.inj hP).symm
    refine (nmR_no B ts i 0 [] 0 (tokH_none hx) (.inr (by decide)) u hR).mono ?_
    rintro e w1 ⟨rfl, hb1⟩
    exact .inl ⟨this, h.R.le, rfl, Keeps.of_below hb1⟩
  | some x =>
    have hre := rest_cons hx
    have hv : valid (pt x) := h.V (pt x) (List.mem_map.2 ⟨x, List.mem_of_getElem? hx, rfl⟩)
    have hn := name_is (k := x.k) (t := x.t) (l := rest ts (i + 1)) hv
    unfold needName at hP
    by_cases hy : nameB (tx (rest ts i)) = true
    · rw [if_pos hy, rest_tail] at hP
      rw [hre] at hy
      obtain ⟨h1, h2⟩ := hn.1 hy
      have ht : tx (rest ts i) = x.t := by
        rw [hre]
        unfold tx
        simp only
        rw [if_neg (by omega)]
      rw [ht] at hP
      refine (nmR_yes B ts i x.t (x.a : Nat) (by rw [tokH_some hx, h1]) h2 (List.getElem?_eq_some_iff.1 hx).1 u hR).mono ?_
      rintro e w1 ⟨rfl, hR1, hk1⟩
      exact .inr ⟨x.t, hP, rfl, hR1, hk1⟩
    · rw [if_neg hy] at hP
      have hno : reserved.contains x.t = true ∨ ¬ x.k = 1 := by
        by_cases h1 : x.k = 1
        · refine .inl ?_
          cases hc : reserved.contains x.t with
          | true => rfl
          | false => exact absurd (by rw [hre]; exact hn.2 ⟨h1, hc⟩) hy
        · exact .inr h1
      refine (nmR_no B ts i x.k x.t (x.a : Nat) (tokH_some hx) hno u hR).mono ?_
      rintro e w1 ⟨rfl, hb1⟩
      exact .inl ⟨(Option.some.inj hP).symm, h.R.le, rfl, Keeps.of_below hb1⟩
theorem pl_do : plainS W.do_ := ⟨_, _, rfl, rfl⟩
theorem pl_end : plainS W.end_ := ⟨_, _, rfl, rfl⟩
theorem pl_sc : plainS S.sc := ⟨_, _, rfl, rfl⟩
theorem pl_eq : plainS S.eq := ⟨_, _, rfl, rfl⟩
theorem pl_then : plainS W.then_ := ⟨_, _, rfl, rfl⟩
theorem pl_else : plainS W.else_ := ⟨_, _, rfl, rfl⟩
theorem pl_lc : plainS S.lc := ⟨_, _, rfl, rfl⟩
theorem pl_rc : plainS S.rc := ⟨_, _, rfl, rfl⟩
theorem pl_next : plainS W.next_ := ⟨_, _, rfl, rfl⟩

def BlkC (f : Nat) : Prop := ∀ (r : PRes) (B : Nat) (ts : List Tok) (i : Nat) (w : World), Ctx w B ts i → P f 7 (nd 4 []) 0 (rest ts i) = some r → Calls Tryz.prog 86 #[.pointer (some ⟨B, 0, none⟩)] w (PAns no w B ts r)
theorem res155 {tm : Array Value} {W : World} {B : Nat} {a b c d : Value} (h : tm[2]?.getD undef = .pointer (some ⟨B, 0, none⟩)) (hx : W.heap[B]? = some (.cells #[a, b, c, d] 24)) : (results Tryz.f131 tm).run Tryz.prog W = .ok (.agg #[a, b, c, d]) W := by
  obtain ⟨c0, c1, c2, c3, _, _, _, _⟩ := in4 hx
  simp [results, Tryz.results131, go_sem, h, c0, c1, c2, c3]
set_option maxRecDepth 20000 in
set_option maxHeartbeats 600000 in
theorem body_of (f : Nat) (hB : BlkC f) (r : PRes) (B : Nat) (ts : List Tok) (i : Nat) (w : World) (hC : Ctx w B ts i) (g : Nd → List PT → PR) (hP : need W.do_ (rest ts i) (fun l => (P f 7 (nd 4 []) 0 l).on fun b l => need W.end_ l fun l => g b l) = some r) : Calls Tryz.prog 131 #[.pointer (some ⟨B, 0, none⟩)] w (EU w B ts g r) := by
  have hBw := hC.R.lt
  have hb0 : Below w.heap.size w (w.alloc zbx) := ext_alloc (Below.refl _ _) _
  have h2 := alloc_new w zbx
  have hk0 : Keeps (fun k => k = B) w (w.alloc zbx) := Keeps.of_below hb0
  have hW1 := hC.wantsU pl_do hP _ hb0
  rw [World.size_alloc] at hW1
  clear hP
  go_enter Tryz.func131, Tryz.ntmps131
  go_wp2_with (first
    | (go_at_call 82; refine hW1.mono ?_; rintro e w1 (⟨rfl, hle, rfl, hk1⟩ | ⟨hP1, rfl, hR1, hk1⟩); (exact ⟨rfl, .inl ⟨i, rfl, hle, rfl, hk0.trans hk1⟩⟩); have hk1' := hk0.trans hk1; (try dsimp only at hP1))
    | (go_at_call 86; refine (callU hP1 (fun r0 h => hB r0 B ts (i + 1) _ (hC.on hR1) h)).mono ?_; rintro e w2 (⟨j, rfl, hle, rfl, hk2⟩ | ⟨n2, j, b2, cap2, hP2, rfl, hN2, hR2, hk2⟩); (exact ⟨rfl, .inl ⟨j, rfl, hle, rfl, hk1'.trans hk2⟩⟩); have hk2' := hk1'.trans hk2; (try dsimp only at hP2); refine Hid.out ?_))
  have g2 := hk2.box (hk1.box h2 (by omega)) (by omega)
  have hz1 : w.heap.size < w1.heap.size := block_lt (hk1.box h2 (by omega))
  have hb2 : Below w2.heap.size w2 (w2.alloc (nbx n2 b2 cap2)) := ext_alloc (Below.refl _ _) _
  have hW3 := (hC.on hR2).wantsU pl_end hP2 _ hb2
  rw [World.size_alloc] at hW3
  have g3 := alloc_new w2 (nbx n2 b2 cap2)
  have g2' := block_below hb2 g2
  have hz2 := hk2.size
  clear hP1 hP2 hW1 hR1 hk1 hk1' h2
  refine Lib.hid ?_
  go_wp2_with (go_at_call 82; refine hW3.mono ?_; rintro e w3 (⟨rfl, hle, rfl, hk3⟩ | ⟨hP3, rfl, hR3, hk3⟩); (exact ⟨rfl, .inl ⟨j, rfl, hle, rfl, (hk2'.trans (Keeps.of_below hb2)).trans hk3⟩⟩); have p3 := hk3.box g3 (by omega); have p2 := hk3.box g2' (by omega); obtain ⟨c0, c1, c2, c3, f0, f1, f2, f3⟩ := in4 p3; obtain ⟨d0, d1, d2, d3, e0, e1, e2, e3⟩ := in4 p2)
  refine bodyPost_ret (res155 rfl (put4_same _ _ _ _ p2)) rfl ?_
  refine .inr ⟨n2, j + 1, b2, cap2, hP3, rfl, ?_, hR3.put4 _ _ _ _ _ hBw, put4_keeps ((hk2'.trans (Keeps.of_below hb2)).trans hk3) _ _ _ _ _ (Nat.le_refl _)⟩
  exact (((hN2.below hb2).keep hk3 (fun q hq _ => by omega)).put4 _ _ _ _ _ (fun q hq => by omega)).weak (fun q hq _ => by omega)
end Go.Proofs.YtnnppenlfocgiaaGreatDoor
namespace Go.Proofs.YtnnppenlfocgiaaGreatDoor
open Go.RowKit
open Go

theorem res179 {tm : Array Value} {W : World} {B : Nat} {a b c d x : Value} (h : tm[2]?.getD undef = .pointer (some ⟨B, 0, none⟩)) (h3 : tm[3]?.getD undef = x) (hx : W.heap[B]? = some (.cells #[a, b, c, d] 24)) : (results Tryz.f152 tm).run Tryz.prog W = .ok (.tuple #[.agg #[a, b, c, d], x]) W := by
  obtain ⟨c0, c1, c2, c3, _, _, _, _⟩ := in4 hx
  simp [results, Tryz.results152, go_sem, h, h3, c0, c1, c2, c3]
/-- What is told of the token here. -/
def LU (w : World) (B : Nat) (ts : List Tok) (N : Nd) (ok : Bool) (i' : Nat) (e : Ending) (w' : World) : Prop := e = .returned (.tuple #[ndv N none 0, .bool ok]) ∧ Rd w' B ts i' ∧ Keeps (fun k => k = B) w w'
set_option maxRecDepth 20000 in
set_option maxHeartbeats 800000 in
theorem lit_num (B : Nat) (ts : List Tok) (i : Nat) (t : List UInt8) (a : Int) (w : World) (hC : Ctx w B ts i) (hV : tokH ts i = tokv 2 ⟨t.toArray⟩ a) (hi : i < ts.length) (hl : t.length ≤ 4000) (v : Int) (hv : Lib.parseIntB 64 t = .ok v) (q : Int) (ok : Bool) (hq : (atomsKV.lookup (wd ts i)).getD (ik 0) = ik q) (hok : (atomsKV.lookup (wd ts i)).isSome = ok) : Calls Tryz.prog 152 #[.pointer (some ⟨B, 0, none⟩)] w (LU w B ts ⟨13, [], v, []⟩ true (i + 1)) := by
  have hBw := hC.R.lt
  have hsh := hC.R.short
  have hb0 : Below w.heap.size w (w.alloc zbx) := ext_alloc (Below.refl _ _) _
  have hTk := token_any B ts i _ (hC.R.below hb0)
  rw [hV] at hTk
  have hWd := fun u (hb : Below w.heap.size w u) => word_any B ts i u (hC.R.below hb)
  have hPI := fun u => parse_ok ⟨t.toArray⟩ (show t.toArray.size ≤ 4000 by simpa using hl) v (by simpa using hv) u
  have hL := fun m u h => look_int (u := u) (m := m) (kv := atomsKV) (by decide) h (wd ts i)
  rw [hq, hok] at hL
  obtain ⟨s, hs⟩ : ∃ s, wd ts i = s := ⟨_, rfl⟩
  rw [hs] at hL hWd
  have z0 := alloc_new w zbx
  clear hV hs hq hok
  go_enter Tryz.func152, Tryz.ntmps152
  go_wp2_with (go_at_call 96; refine hTk.mono ?_; rintro e w1 ⟨rfl, hb1⟩)
  have hb1' : Below w.heap.size w (w1.alloc (tbx 2 ⟨t.toArray⟩ a)) := ext_alloc (ext_trans hb0 hb1) _
  obtain ⟨m1, m2, m3, m4, m5, b, cap, h1, _, hW, _⟩ := (hC.R.below hb1').box
  obtain ⟨c0, c1, c2, c3, c4, c5, c6, f6⟩ := rdC h1
  have q0 : LkM m5 (mapObj sk atomsKV) (w1.alloc (tbx 2 ⟨t.toArray⟩ a)) := hW.h5
  obtain ⟨t0, t1⟩ := box44 (alloc_new w1 (tbx 2 ⟨t.toArray⟩ a))
  have z1 := block_alloc (tbx 2 ⟨t.toArray⟩ a) (block_below hb1 z0)
  obtain ⟨t4, ht4⟩ : ∃ t4, w1.heap.size = t4 := ⟨_, rfl⟩
  obtain ⟨W1, hW1⟩ : ∃ W1, w1.alloc (tbx 2 ⟨t.toArray⟩ a) = W1 := ⟨_, rfl⟩
  rw [hW1] at hb1' c4 q0 t0 t1 z1
  dsimp only [tbx] at hW1
  rw [ht4] at t0 t1
  rw [hW1, ht4]
  have hL5 := hL m5
  clear hW h1 c0 c1 c2 c3 c5 c6 f6 hW1 ht4 hb1 hTk z0 hL
  go_region_with ((go_at_call 98; refine (hWd _ (hb1'.drew)).mono ?_; rintro e w2 ⟨rfl, hb2⟩; have q3 := LkM.below (LkM.drew _ q0) hb2; have c4 := cellB (W := W1.drew) hb2 c4))
  all_goals
    have t0' := cellB (W := W1.drew) hb2 t0
    have t1' := cellB (W := W1.drew) hb2 t1
    have z2 := block_below (W := W1.drew) hb2 z1
    have hb2' := ext_trans (hb1'.drew) hb2
    have t0a := fun o => cellB (ext_alloc (Below.refl _ w2) o) t0'
    have t1a := fun o => cellB (ext_alloc (Below.refl _ w2) o) t1'
    clear q0 q3 c4 hL5 hWd t0 t1 z1
    go_wp2_with (go_at_call 78; refine Hid.out ?_)
    have hb7 : Below w2.heap.size w2 (w2.alloc (nbx (nd q []) none 0)) := ext_alloc (Below.refl _ _) _
    have g7 := alloc_new w2 (nbx (nd q []) none 0)
    have z7 := block_below hb7 z2
    have hb27 := ext_trans hb2' hb7
    have hzz := hb2'.size
    have hzz2 := block_lt z2
    obtain ⟨t7, ht7⟩ : ∃ t7, w2.heap.size = t7 := ⟨_, rfl⟩
    rw [ht7] at g7 hzz hzz2
    clear t0' t1' t0a t1a z2
    refine Lib.hid ?_
    go_wp2_with (go_at_call 78; refine (hPI _).mono ?_; rintro e w3 ⟨rfl, hb3⟩; refine Hid.out ?_)
    have p7 := block_below hb3 g7
    have p2 := block_below hb3 z7
    have hb3' := ext_trans hb27 hb3
    have hR3 := hC.R.below hb3'
    obtain ⟨m1', m2', m3', m4', m5', bb, capb, h1', _⟩ := hR3.box
    obtain ⟨_, _, _, _, _, _, a6, x6⟩ := rdC h1'
    obtain ⟨c0, c1, c2, c3, f0, f1, f2, f3⟩ := in4 p7
    obtain ⟨d0, d1, d2, d3, e0, e1, e2, e3⟩ := in4 p2
    have n1 : ¬ B = t7 := by omega
    have n2 : ¬ t7 = B := by omega
    have n3 : ¬ w.heap.size = t7 := by omega
    have n4 : ¬ t7 = w.heap.size := by omega
    have n5 : ¬ B = w.heap.size := by omega
    have n6 : ¬ w.heap.size = B := by omega
    (try rw [ht7])
    clear ht7
    refine Lib.hid ?_
    obtain ⟨W4, hW4⟩ : ∃ W4, put4 w3 t7 (.int .i64 13) (sk []) (.int .i64 v) (.slice none 0 0) = W4 := ⟨_, rfl⟩
    have p7' : W4.heap[t7]? = some (nbx ⟨13, [], v, []⟩ none 0) := hW4 ▸ put4_same _ _ _ _ p7
    have p2' : W4.heap[w.heap.size]? = some zbx := hW4 ▸ (put4_other _ _ _ _ (by omega)).trans p2
    have hR4 : Rd W4 B ts i := hW4 ▸ hR3.put4 t7 _ _ _ _ (by omega)
    have hk4 : Keeps (fun k => k = B) w W4 := hW4 ▸ put4_keeps (Keeps.of_below hb3') t7 _ _ _ _ (by omega)
    clear a6 x6 h1' d0 d1 d2 d3 e0 e1 e2 e3
    obtain ⟨m1'', m2'', m3'', m4'', m5'', bb', capb', h1'', _⟩ := hR4.box
    obtain ⟨_, _, _, _, _, _, a6, x6⟩ := rdC h1''
    obtain ⟨W5, hW5⟩ : ∃ W5, W4.setCell ⟨B, 6, none⟩ (.int .i64 ((i : Nat) + 1)) = W5 := ⟨_, rfl⟩
    have p75 : W5.heap[t7]? = some (nbx ⟨13, [], v, []⟩ none 0) := hW5 ▸ (set1_other _ _ (by omega)).trans p7'
    have p25 : W5.heap[w.heap.size]? = some zbx := hW5 ▸ (set1_other _ _ (by omega)).trans p2'
    have hR5 : Rd W5 B ts (i + 1) := hW5 ▸ hR4.go (j := i + 1) hi
    have hk5 : Keeps (fun k => k = B) w W5 := hW5 ▸ hk4.set B 6 _ (fun _ => rfl)
    obtain ⟨x0, x1, x2, x3, y0, y1, y2, y3⟩ := in4 p75
    obtain ⟨d0, d1, d2, d3, e0, e1, e2, e3⟩ := in4 p25
    clear h1'' p7 p2 p7' p2' hR3 hR4 hk4 n1 n2 n3 n4 n5 n6 hPI hzz2 g7 z7 hb7 hb27 hb2' hb2 hb1'
    go_wp2
    refine bodyPost_ret (res179 rfl rfl (put4_same _ _ _ _ p25)) rfl ?_
    exact ⟨rfl, hR5.put4 _ _ _ _ _ hBw, put4_keeps hk5 _ _ _ _ _ (Nat.le_refl _)⟩
end Go.Proofs.YtnnppenlfocgiaaGreatDoor
namespace Go.Proofs.YtnnppenlfocgiaaGreatDoor
open Go.RowKit
open Go

set_option maxRecDepth 20000 in
set_option maxHeartbeats 800000 in
theorem lit_text (B : Nat) (ts : List Tok) (i : Nat) (t : List UInt8) (a : Int) (w : World) (hC : Ctx w B ts i) (hV : tokH ts i = tokv 3 ⟨t.toArray⟩ a) (hi : i < ts.length) (q : Int) (ok : Bool) (hq : (atomsKV.lookup (wd ts i)).getD (ik 0) = ik q) (hok : (atomsKV.lookup (wd ts i)).isSome = ok) : Calls Tryz.prog 152 #[.pointer (some ⟨B, 0, none⟩)] w (LU w B ts ⟨14, t, 0, []⟩ true (i + 1)) := by
  have hBw := hC.R.lt
  have hsh := hC.R.short
  have hb0 : Below w.heap.size w (w.alloc zbx) := ext_alloc (Below.refl _ _) _
  have hTk := token_any B ts i _ (hC.R.below hb0)
  rw [hV] at hTk
  have hWd := fun u (hb : Below w.heap.size w u) => word_any B ts i u (hC.R.below hb)
  have hL := fun m u h => look_int (u := u) (m := m) (kv := atomsKV) (by decide) h (wd ts i)
  rw [hq, hok] at hL
  obtain ⟨s, hs⟩ : ∃ s, wd ts i = s := ⟨_, rfl⟩
  rw [hs] at hL hWd
  have z0 := alloc_new w zbx
  clear hV hs hq hok
  go_enter Tryz.func152, Tryz.ntmps152
  go_wp2_with (go_at_call 96; refine hTk.mono ?_; rintro e w1 ⟨rfl, hb1⟩)
  have hb1' : Below w.heap.size w (w1.alloc (tbx 3 ⟨t.toArray⟩ a)) := ext_alloc (ext_trans hb0 hb1) _
  obtain ⟨m1, m2, m3, m4, m5, b, cap, h1, _, hW, _⟩ := (hC.R.below hb1').box
  obtain ⟨c0, c1, c2, c3, c4, c5, c6, f6⟩ := rdC h1
  have q0 : LkM m5 (mapObj sk atomsKV) (w1.alloc (tbx 3 ⟨t.toArray⟩ a)) := hW.h5
  obtain ⟨t0, t1⟩ := box44 (alloc_new w1 (tbx 3 ⟨t.toArray⟩ a))
  have z1 := block_alloc (tbx 3 ⟨t.toArray⟩ a) (block_below hb1 z0)
  obtain ⟨t4, ht4⟩ : ∃ t4, w1.heap.size = t4 := ⟨_, rfl⟩
  obtain ⟨W1, hW1⟩ : ∃ W1, w1.alloc (tbx 3 ⟨t.toArray⟩ a) = W1 := ⟨_, rfl⟩
  rw [hW1] at hb1' c4 q0 t0 t1 z1
  dsimp only [tbx] at hW1
  rw [ht4] at t0 t1
  rw [hW1, ht4]
  have hL5 := hL m5
  clear hW h1 c0 c1 c2 c3 c5 c6 f6 hW1 ht4 hb1 hTk z0 hL
  go_region_with ((go_at_call 98; refine (hWd _ (hb1'.drew)).mono ?_; rintro e w2 ⟨rfl, hb2⟩; have q3 := LkM.below (LkM.drew _ q0) hb2; have c4 := cellB (W := W1.drew) hb2 c4))
  all_goals
    have t0' := cellB (W := W1.drew) hb2 t0
    have t1' := cellB (W := W1.drew) hb2 t1
    have z2 := block_below (W := W1.drew) hb2 z1
    have hb2' := ext_trans (hb1'.drew) hb2
    have t0a := fun o => cellB (ext_alloc (Below.refl _ w2) o) t0'
    have t1a := fun o => cellB (ext_alloc (Below.refl _ w2) o) t1'
    clear q0 q3 c4 hL5 hWd t0 t1 z1
    have hz2 := block_lt z2
    have hzz := hb2'.size
    have hR2 := hC.R.below hb2'
    obtain ⟨m1', m2', m3', m4', m5', bb, capb, h1', _⟩ := hR2.box
    have a6 := fun o => (rdC (block_alloc o h1')).c6
    have x6 := fun o => (rdC (block_alloc o h1')).f6
    obtain ⟨d0, d1, d2, d3, e0, e1, e2, e3⟩ := in4a z2
    have n1 : ¬ B = w2.heap.size := by omega
    have n2 : ¬ w2.heap.size = B := by omega
    have n3 : ¬ w.heap.size = w2.heap.size := by omega
    have n4 : ¬ w2.heap.size = w.heap.size := by omega
    have n5 : ¬ B = w.heap.size := by omega
    have n6 : ¬ w.heap.size = B := by omega
    clear h1' t0' t1'
    go_wp2
    refine bodyPost_ret (res179 rfl rfl (put4_same _ _ _ _ ((set1_other _ _ (by omega)).trans (block_alloc _ z2)))) rfl ?_
    exact ⟨rfl, ((hC.R.below (ext_alloc hb2' _)).go (j := i + 1) hi).put4 _ _ _ _ _ hBw, put4_keeps ((Keeps.of_below (S := fun k => k = B) (ext_alloc hb2' _)).set B 6 _ (fun _ => rfl)) _ _ _ _ _ (Nat.le_refl _)⟩
end Go.Proofs.YtnnppenlfocgiaaGreatDoor
