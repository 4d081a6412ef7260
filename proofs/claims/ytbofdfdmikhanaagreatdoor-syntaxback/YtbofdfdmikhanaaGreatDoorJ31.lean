/- The program's reader: what an expression is made of: the walk. The program's reader: if. -/
import Derived.Test.YtbofdfdmikhanaaGreatDoorJ30
import Derived.Test.YtbofdfdmikhanaaGreatDoorJ22
namespace Go.Proofs.YtbofdfdmikhanaaGreatDoor
open Go.RowKit
open Go

theorem res178 {tm : Array Value} {W : World} {B : Nat} {a b c d : Value} (h : tm[2]?.getD undef = .pointer (some ⟨B, 0, none⟩)) (hx : W.heap[B]? = some (.cells #[a, b, c, d] 24)) : (results Tryz.f178 tm).run Tryz.prog W = .ok (.agg #[a, b, c, d]) W := by
  obtain ⟨c0, c1, c2, c3, _, _, _, _⟩ := in4 hx
  simp [results, Tryz.results178, go_sem, h, c0, c1, c2, c3]
set_option maxRecDepth 20000 in
set_option maxHeartbeats 800000 in
theorem sim_lit (B : Nat) (ts : List Tok) (i : Nat) (k : Int) (t : List UInt8) (n : Int) (w : World) (hC : Ctx w B ts i) (hL : ∀ u, Ctx u B ts i → Calls Tryz.prog 179 #[.pointer (some ⟨B, 0, none⟩)] u (LU u B ts ⟨k, t, n, []⟩ true (i + 1))) : Calls Tryz.prog 178 #[.pointer (some ⟨B, 0, none⟩)] w (PAns no w B ts (.inr (⟨k, t, n, []⟩, rest ts (i + 1)))) := by
  have hBw := hC.R.lt
  have hb0 : Below w.heap.size w (w.alloc zbx) := ext_alloc (Below.refl _ _) _
  have h2 := alloc_new w zbx
  have hk0 : Keeps (fun k => k = B) w (w.alloc zbx) := Keeps.of_below hb0
  have hc := hL _ (hC.below hb0)
  clear hL
  go_enter Tryz.func178, Tryz.ntmps178
  go_wp2_with (go_at_call 179; refine hc.mono ?_; rintro e w1 ⟨rfl, hR1, hk1⟩; have g2 := hk1.box h2 (by omega); obtain ⟨x0, x1, x2, x3, y0, y1, y2, y3⟩ := in4a g2; refine Hid.out ?_)
  refine Lib.hid ?_
  go_wp2
  have hb1 : Below w1.heap.size w1 (w1.alloc (nbx ⟨k, t, n, []⟩ none 0)) := ext_alloc (Below.refl _ _) _
  refine bodyPost_ret (res178 rfl (put4_same _ _ _ _ (block_alloc _ g2))) rfl ?_
  exact close_ret (N := ⟨k, t, n, []⟩) rfl (ndV_leaf _ _ k t n) (hR1.below hb1) ((hk0.trans hk1).trans (Keeps.of_below hb1)) (Nat.le_refl _) hBw
set_option maxRecDepth 20000 in
set_option maxHeartbeats 1000000 in
theorem sim_lc (q : Int) (r : PRes) (B : Nat) (ts : List Tok) (i : Nat) (w : World) (hC : Ctx w B ts i) (hL : ∀ u, Ctx u B ts i → Calls Tryz.prog 179 #[.pointer (some ⟨B, 0, none⟩)] u (LU u B ts ⟨q, [], 0, []⟩ false i)) (hy : tx (rest ts i) = S.lc) (hP : need S.rc (rest ts (i + 1)) (fun l => .ok (nd 19 []) l) = some r) : Calls Tryz.prog 178 #[.pointer (some ⟨B, 0, none⟩)] w (PAns no w B ts r) := by
  have hBw := hC.R.lt
  have hb0 : Below w.heap.size w (w.alloc zbx) := ext_alloc (Below.refl _ _) _
  have h2 := alloc_new w zbx
  have hk0 : Keeps (fun k => k = B) w (w.alloc zbx) := Keeps.of_below hb0
  have hc := hL _ (hC.below hb0)
  clear hL
  go_enter Tryz.func178, Tryz.ntmps178
  go_wp2_with (first | (go_at_call 179; refine hc.mono ?_; rintro e w1 ⟨rfl, hR1, hk1⟩; have g2 := hk1.box h2 (by omega)) | (go_at_call 96; refine Hid.out ?_))
  have hb1 : Below w1.heap.size w1 (w1.alloc (nbx ⟨q, [], 0, []⟩ none 0)) := ext_alloc (Below.refl _ _) _
  have hCU := hC.on (hR1.below hb1)
  have z0 := block_below hb1 g2
  have hkU := (hk0.trans hk1).trans (Keeps.of_below hb1)
  obtain ⟨U, hU⟩ : ∃ U, w1.alloc (nbx ⟨q, [], 0, []⟩ none 0) = U := ⟨_, rfl⟩
  rw [hU] at hCU z0 hkU
  replace hU : w1.alloc (.cells #[.int .i64 q, .string ⟨#[]⟩, .int .i64 0, .slice none 0 0] 24) = U := hU
  have hTy := fun u hb => hCU.takes_yes pl_lc hy u hb
  have hb0 := Below.refl U.heap.size U
  have hzU := block_lt z0
  clear hc hR1 hk1 hk0 g2 h2 hb1
  rw [hU]
  clear hU
  refine Lib.hid ?_
  go_wp2_with (first
    | (go_at_call_of 96 (Value.string ⟨#[123]⟩); refine (hTy _ hb0).mono ?_; rintro e wy ⟨rfl, hRy, hky⟩; have hkw := (hkU.trans (Keeps.of_below (S := fun k => k = B) hb0)).trans hky; have g2 := hky.box z0 (by omega); have hCX := hC.on hRy)
    | (go_at_call 93; refine (hCX.wantsU pl_rc hP _ (Below.refl _ _)).mono ?_; rintro e w3 (⟨rfl, hle, rfl, hk3⟩ | ⟨hP3, rfl, hR3, hk3⟩); (exact ⟨rfl, close_pan rfl hle (hkw.trans hk3)⟩); have q2 := hk3.box g2 (by omega); obtain ⟨c0, c1, c2, c3, f0, f1, f2, f3⟩ := in4 q2))
  obtain rfl := Option.some.inj hP3
  refine bodyPost_ret (res178 rfl (put4_same _ _ _ _ q2)) rfl ?_
  exact close_ret (N := nd 19 []) rfl (ndV_leaf _ _ 19 [] 0) hR3 (hkw.trans hk3) (Nat.le_refl _) hBw
set_option maxRecDepth 20000 in
set_option maxHeartbeats 1000000 in
theorem sim_next (f : Nat) (q : Int) (r : PRes) (B : Nat) (ts : List Tok) (i : Nat) (w : World) (hC : Ctx w B ts i) (hL : ∀ u, Ctx u B ts i → Calls Tryz.prog 179 #[.pointer (some ⟨B, 0, none⟩)] u (LU u B ts ⟨q, [], 0, []⟩ false i)) (hE : ExprC f) (hn0 : ¬ tx (rest ts i) = S.lc) (hy : tx (rest ts i) = W.next_) (hP : need S.lp (rest ts (i + 1)) (fun l => (P f 0 nil0 0 l).on fun x l => need S.cm l fun l => (P f 0 nil0 0 l).on fun y l => need S.rp l fun l => .ok (nd 26 [x, y]) l) = some r) : Calls Tryz.prog 178 #[.pointer (some ⟨B, 0, none⟩)] w (PAns no w B ts r) := by
  have hBw := hC.R.lt
  have hb0 : Below w.heap.size w (w.alloc zbx) := ext_alloc (Below.refl _ _) _
  have h2 := alloc_new w zbx
  have hk0 : Keeps (fun k => k = B) w (w.alloc zbx) := Keeps.of_below hb0
  have hc := hL _ (hC.below hb0)
  clear hL
  go_enter Tryz.func178, Tryz.ntmps178
  go_wp2_with (first | (go_at_call 179; refine hc.mono ?_; rintro e w1 ⟨rfl, hR1, hk1⟩; have g2 := hk1.box h2 (by omega)) | (go_at_call 96; refine Hid.out ?_))
  have hb1 : Below w1.heap.size w1 (w1.alloc (nbx ⟨q, [], 0, []⟩ none 0)) := ext_alloc (Below.refl _ _) _
  have hCU := hC.on (hR1.below hb1)
  have z0 := block_below hb1 g2
  have hkU := (hk0.trans hk1).trans (Keeps.of_below hb1)
  obtain ⟨U, hU⟩ : ∃ U, w1.alloc (nbx ⟨q, [], 0, []⟩ none 0) = U := ⟨_, rfl⟩
  rw [hU] at hCU z0 hkU
  replace hU : w1.alloc (.cells #[.int .i64 q, .string ⟨#[]⟩, .int .i64 0, .slice none 0 0] 24) = U := hU
  have hT0 := fun u hb => hCU.takes_no pl_lc hn0 u hb
  have hTy := fun u hb => hCU.takes_yes pl_next hy u hb
  have hb0 := Below.refl U.heap.size U
  have hzU := block_lt z0
  clear hc hR1 hk1 hk0 g2 h2 hb1
  rw [hU]
  clear hU
  refine Lib.hid ?_
  cases r with
  | inl l =>
    go_wp2_with (first
    | (go_at_call_of 96 (Value.string ⟨#[123]⟩); refine (hT0 _ hb0).mono ?_; rintro e w2 ⟨rfl, hbx1⟩; have hb1 := ext_trans hb0 hbx1; have z1 := block_below hbx1 z0)
    | (go_at_call_of 96 (Value.string ⟨#[110, 101, 120, 116]⟩); refine (hTy _ hb1).mono ?_; rintro e wy ⟨rfl, hRy, hky⟩; have hkw := (hkU.trans (Keeps.of_below (S := fun k => k = B) hb1)).trans hky; have g2 := hky.box z1 (by omega); have hCX := hC.on hRy)
    | (go_at_call 180; refine (next_of f hE _ B ts _ _ hCX hP).mono ?_; rintro e w3 ⟨j, hj, hle, rfl, hk3⟩))
    exact ⟨rfl, close_pan hj hle (hkw.trans hk3)⟩
  | inr p =>
    obtain ⟨n, l⟩ := p
    go_wp2_with (first
    | (go_at_call_of 96 (Value.string ⟨#[123]⟩); refine (hT0 _ hb0).mono ?_; rintro e w2 ⟨rfl, hbx1⟩; have hb1 := ext_trans hb0 hbx1; have z1 := block_below hbx1 z0)
    | (go_at_call_of 96 (Value.string ⟨#[110, 101, 120, 116]⟩); refine (hTy _ hb1).mono ?_; rintro e wy ⟨rfl, hRy, hky⟩; have hkw := (hkU.trans (Keeps.of_below (S := fun k => k = B) hb1)).trans hky; have g2 := hky.box z1 (by omega); have hCX := hC.on hRy)
    | (go_at_call 180; refine (next_of f hE _ B ts _ _ hCX hP).mono ?_; rintro e w3 ⟨j, b, cap, hj, rfl, hN, hR, hk3⟩; have q2 := hk3.box g2 (by omega); obtain ⟨c0, c1, c2, c3, f0, f1, f2, f3⟩ := in4 q2))
    refine bodyPost_ret (res178 rfl (put4_same _ _ _ _ q2)) rfl ?_
    exact close_ret hj (hN.weak (fun q hq _ => by have := block_lt g2; rcases hq with hq | hq; exact hq.elim; exact ⟨.inr (by omega), by omega⟩)) hR (hkw.trans hk3) (Nat.le_refl _) hBw
set_option maxRecDepth 20000 in
set_option maxHeartbeats 1000000 in
theorem sim_lp (f : Nat) (q : Int) (r : PRes) (B : Nat) (ts : List Tok) (i : Nat) (w : World) (hC : Ctx w B ts i) (hL : ∀ u, Ctx u B ts i → Calls Tryz.prog 179 #[.pointer (some ⟨B, 0, none⟩)] u (LU u B ts ⟨q, [], 0, []⟩ false i)) (hE : ExprC f) (hn0 : ¬ tx (rest ts i) = S.lc) (hn1 : ¬ tx (rest ts i) = W.next_) (hy : tx (rest ts i) = S.lp) (hP : (P f 0 nil0 0 (rest ts (i + 1))).on (fun n l => need S.rp l fun l => .ok n l) = some r) : Calls Tryz.prog 178 #[.pointer (some ⟨B, 0, none⟩)] w (PAns no w B ts r) := by
  have hBw := hC.R.lt
  have hb0 : Below w.heap.size w (w.alloc zbx) := ext_alloc (Below.refl _ _) _
  have h2 := alloc_new w zbx
  have hk0 : Keeps (fun k => k = B) w (w.alloc zbx) := Keeps.of_below hb0
  have hc := hL _ (hC.below hb0)
  clear hL
  go_enter Tryz.func178, Tryz.ntmps178
  go_wp2_with (first | (go_at_call 179; refine hc.mono ?_; rintro e w1 ⟨rfl, hR1, hk1⟩; have g2 := hk1.box h2 (by omega)) | (go_at_call 96; refine Hid.out ?_))
  have hb1 : Below w1.heap.size w1 (w1.alloc (nbx ⟨q, [], 0, []⟩ none 0)) := ext_alloc (Below.refl _ _) _
  have hCU := hC.on (hR1.below hb1)
  have z0 := block_below hb1 g2
  have hkU := (hk0.trans hk1).trans (Keeps.of_below hb1)
  obtain ⟨U, hU⟩ : ∃ U, w1.alloc (nbx ⟨q, [], 0, []⟩ none 0) = U := ⟨_, rfl⟩
  rw [hU] at hCU z0 hkU
  replace hU : w1.alloc (.cells #[.int .i64 q, .string ⟨#[]⟩, .int .i64 0, .slice none 0 0] 24) = U := hU
  have hT0 := fun u hb => hCU.takes_no pl_lc hn0 u hb
  have hT1 := fun u hb => hCU.takes_no pl_next hn1 u hb
  have hTy := fun u hb => hCU.takes_yes pl_lp hy u hb
  have hb0 := Below.refl U.heap.size U
  have hzU := block_lt z0
  clear hc hR1 hk1 hk0 g2 h2 hb1
  rw [hU]
  clear hU
  refine Lib.hid ?_
  go_wp2_with (first
    | (go_at_call_of 96 (Value.string ⟨#[123]⟩); refine (hT0 _ hb0).mono ?_; rintro e w2 ⟨rfl, hbx1⟩; have hb1 := ext_trans hb0 hbx1; have z1 := block_below hbx1 z0)
    | (go_at_call_of 96 (Value.string ⟨#[110, 101, 120, 116]⟩); refine (hT1 _ hb1).mono ?_; rintro e w3 ⟨rfl, hbx2⟩; have hb2 := ext_trans hb1 hbx2; have z2 := block_below hbx2 z1)
    | (go_at_call_of 96 (Value.string ⟨#[40]⟩); refine (hTy _ hb2).mono ?_; rintro e wy ⟨rfl, hRy, hky⟩; have hkw := (hkU.trans (Keeps.of_below (S := fun k => k = B) hb2)).trans hky; have g2 := hky.box z2 (by omega); have hCX := hC.on hRy)
    | (go_at_call 154; refine (callU hP (fun r0 h => hE r0 B ts _ _ hCX h)).mono ?_; rintro e w3 (⟨j, rfl, hle, rfl, hk3⟩ | ⟨n1, j1, b1, cap1, hP3, rfl, hN1, hR3, hk3⟩); (exact ⟨rfl, close_pan rfl hle (hkw.trans hk3)⟩); (try dsimp only at hP3); have hk3' := hkw.trans hk3; have g3 := hk3.box g2 (by omega); have hzy := hky.size; have hzb := hb2.size; refine Hid.out ?_))
  have hz3 := hk3.size
  have hb3 : Below w3.heap.size w3 (w3.alloc (nbx n1 b1 cap1)) := ext_alloc (Below.refl _ _) _
  have q4 := alloc_new w3 (nbx n1 b1 cap1)
  have g3' := block_below hb3 g3
  have hN1' : NdV (fun q => w.heap.size < q) (w3.alloc (nbx n1 b1 cap1)) n1 (ndv n1 b1 cap1) := (hN1.weak (fun q hq _ => by omega)).below hb3
  have hk4 := hk3'.trans (Keeps.of_below hb3)
  have hW4 := (hC.on hR3).wantsU pl_rp hP3 _ hb3
  rw [World.size_alloc] at hW4
  clear hT0 hT1 hTy hP3 hP
  refine Lib.hid ?_
  go_wp2_with (go_at_call 93; refine hW4.mono ?_; rintro e w5 (⟨rfl, hle, rfl, hk5⟩ | ⟨hP5, rfl, hR5, hk5⟩); (exact ⟨rfl, close_pan rfl hle (hk4.trans hk5)⟩); have p3 := hk5.box q4 (by omega); have p2 := hk5.box g3' (by omega); obtain ⟨c0, c1, c2, c3, f0, f1, f2, f3⟩ := in4 p3; obtain ⟨d0, d1, d2, d3, e0, e1, e2, e3⟩ := in4 p2)
  obtain rfl := Option.some.inj hP5
  refine bodyPost_ret (res178 rfl (put4_same _ _ _ _ p2)) rfl ?_
  exact close_ret rfl ((hN1'.keep hk5 (fun q hq _ => by omega)).weak (fun q hq _ => ⟨.inr (by omega), by omega⟩)) hR5 (hk4.trans hk5) (Nat.le_refl _) hBw
set_option maxRecDepth 20000 in
set_option maxHeartbeats 1000000 in
theorem sim_name (q : Int) (r : PRes) (B : Nat) (ts : List Tok) (i : Nat) (w : World) (hC : Ctx w B ts i) (hL : ∀ u, Ctx u B ts i → Calls Tryz.prog 179 #[.pointer (some ⟨B, 0, none⟩)] u (LU u B ts ⟨q, [], 0, []⟩ false i)) (hn0 : ¬ tx (rest ts i) = S.lc) (hn1 : ¬ tx (rest ts i) = W.next_) (hn2 : ¬ tx (rest ts i) = S.lp) (hP : needName (rest ts i) (fun s l => .ok ⟨18, s, 0, []⟩ l) = some r) : Calls Tryz.prog 178 #[.pointer (some ⟨B, 0, none⟩)] w (PAns no w B ts r) := by
  have hBw := hC.R.lt
  have hb0 : Below w.heap.size w (w.alloc zbx) := ext_alloc (Below.refl _ _) _
  have h2 := alloc_new w zbx
  have hk0 : Keeps (fun k => k = B) w (w.alloc zbx) := Keeps.of_below hb0
  have hc := hL _ (hC.below hb0)
  clear hL
  go_enter Tryz.func178, Tryz.ntmps178
  go_wp2_with (first | (go_at_call 179; refine hc.mono ?_; rintro e w1 ⟨rfl, hR1, hk1⟩; have g2 := hk1.box h2 (by omega)) | (go_at_call 96; refine Hid.out ?_))
  have hb1 : Below w1.heap.size w1 (w1.alloc (nbx ⟨q, [], 0, []⟩ none 0)) := ext_alloc (Below.refl _ _) _
  have hCU := hC.on (hR1.below hb1)
  have z0 := block_below hb1 g2
  have hkU := (hk0.trans hk1).trans (Keeps.of_below hb1)
  obtain ⟨U, hU⟩ : ∃ U, w1.alloc (nbx ⟨q, [], 0, []⟩ none 0) = U := ⟨_, rfl⟩
  rw [hU] at hCU z0 hkU
  replace hU : w1.alloc (.cells #[.int .i64 q, .string ⟨#[]⟩, .int .i64 0, .slice none 0 0] 24) = U := hU
  have hT0 := fun u hb => hCU.takes_no pl_lc hn0 u hb
  have hT1 := fun u hb => hCU.takes_no pl_next hn1 u hb
  have hT2 := fun u hb => hCU.takes_no pl_lp hn2 u hb
  have hb0 := Below.refl U.heap.size U
  have hzU := block_lt z0
  clear hc hR1 hk1 hk0 g2 h2 hb1
  rw [hU]
  clear hU
  refine Lib.hid ?_
  go_wp2_with (first
    | (go_at_call_of 96 (Value.string ⟨#[123]⟩); refine (hT0 _ hb0).mono ?_; rintro e w2 ⟨rfl, hbx1⟩; have hb1 := ext_trans hb0 hbx1; have z1 := block_below hbx1 z0)
    | (go_at_call_of 96 (Value.string ⟨#[110, 101, 120, 116]⟩); refine (hT1 _ hb1).mono ?_; rintro e w3 ⟨rfl, hbx2⟩; have hb2 := ext_trans hb1 hbx2; have z2 := block_below hbx2 z1)
    | (go_at_call_of 96 (Value.string ⟨#[40]⟩); refine (hT2 _ hb2).mono ?_; rintro e w4 ⟨rfl, hbx3⟩; have hb3 := ext_trans hb2 hbx3; have z3 := block_below hbx3 z2)
    | (go_at_call 94; refine (hCU.nameU hP _ hb3).mono ?_; rintro e w6 (⟨rfl, hle, rfl, hk6⟩ | ⟨s, hP6, rfl, hR6, hk6⟩); (exact ⟨rfl, close_pan rfl hle ((hkU.trans (Keeps.of_below hb3)).trans hk6)⟩); have g2 := hk6.box z3 (by omega); obtain ⟨c0, c1, c2, c3, f0, f1, f2, f3⟩ := in4 g2))
  obtain rfl := Option.some.inj hP6
  refine bodyPost_ret (res178 rfl (put4_same _ _ _ _ g2)) rfl ?_
  exact close_ret (N := ⟨18, s, 0, []⟩) rfl (ndV_leaf _ _ 18 s 0) hR6 ((hkU.trans (Keeps.of_below hb3)).trans hk6) (Nat.le_refl _) hBw
theorem sim_of (f : Nat) (hE : ExprC f) : SimC (f + 1) := by
  intro r B ts i w hC hP
  rcases lit_any f r B ts i w hC hP with ⟨N, rfl, hk, hL⟩ | ⟨q, hA, hL⟩
  · obtain ⟨k, t, n, kids⟩ := N
    simp only at hk
    subst hk
    exact sim_lit B ts i k t n w hC hL
  · unfold afterLit at hA
    rw [rest_tail] at hA
    split at hA
    · rename_i h1
      exact sim_lc q r B ts i w hC hL h1 hA
    rename_i h1
    split at hA
    · rename_i h2
      exact sim_next f q r B ts i w hC hL hE h1 h2 hA
    rename_i h2
    split at hA
    · rename_i h3
      exact sim_lp f q r B ts i w hC hL hE h1 h2 h3 hA
    · rename_i h3
      exact sim_name q r B ts i w hC hL h1 h2 h3 hA
end Go.Proofs.YtbofdfdmikhanaaGreatDoor
namespace Go.Proofs.YtbofdfdmikhanaaGreatDoor
open Go.RowKit
open Go

theorem res138 {tm : Array Value} {W : World} {B : Nat} {a b c d : Value} (h : tm[2]?.getD undef = .pointer (some ⟨B, 0, none⟩)) (hx : W.heap[B]? = some (.cells #[a, b, c, d] 24)) : (results Tryz.f138 tm).run Tryz.prog W = .ok (.agg #[a, b, c, d]) W := by
  obtain ⟨c0, c1, c2, c3, _, _, _, _⟩ := in4 hx
  simp [results, Tryz.results138, go_sem, h, c0, c1, c2, c3]
set_option maxRecDepth 20000 in
set_option maxHeartbeats 4000000 in
theorem choice_of (f : Nat) (hE : ExprC f) (hB : BlkC f) (r : PRes) (B : Nat) (ts : List Tok) (i : Nat) (w : World) (hC : Ctx w B ts i) (hP : (P f 0 nil0 0 (rest ts i)).on (fun x l => need W.then_ l fun l => (P f 7 (nd 4 []) 0 l).on fun b l => if tx l = W.else_ then (P f 7 (nd 4 []) 0 l.tail).on fun c l => need W.end_ l fun l => .ok (nd 8 [x, b, c]) l else need W.end_ l fun l => .ok (nd 8 [x, b]) l) = some r) : Calls Tryz.prog 138 #[.pointer (some ⟨B, 0, none⟩)] w (PAns no w B ts r) := by
  obtain ⟨i0, hi0, hz0, hz1, hz2⟩ := info_parts info24
  have hBw := hC.R.lt
  have hb0 : Below w.heap.size w (w.alloc zbx) := ext_alloc (Below.refl _ _) _
  have h2 := alloc_new w zbx
  have hk0 : Keeps (fun k => k = B) w (w.alloc zbx) := Keeps.of_below hb0
  have hc1 := callU hP (fun r0 h => hE r0 B ts _ _ (hC.below hb0) h)
  clear hP
  go_enter Tryz.func138, Tryz.ntmps138
  go_wp2_with (go_at_call 154; refine hc1.mono ?_; rintro e w3 (⟨j, rfl, hle, rfl, hk3⟩ | ⟨n1, j1, b1, cap1, hP3, rfl, hN1, hR3, hk3⟩); (exact ⟨rfl, close_pan rfl hle (hk0.trans hk3)⟩); (try dsimp only at hP3); have hk3' := hk0.trans hk3; have g3 := hk3.box h2 (by omega); refine Hid.out ?_)
  have hzw := block_lt g3
  have hb3 : Below w3.heap.size w3 (w3.alloc (nbx n1 b1 cap1)) := ext_alloc (Below.refl _ _) _
  have q4 := alloc_new w3 (nbx n1 b1 cap1)
  have g3' := block_below hb3 g3
  have hN1' : NdV (fun q => w.heap.size < q) (w3.alloc (nbx n1 b1 cap1)) n1 (ndv n1 b1 cap1) := (hN1.weak (fun q hq _ => by simp at hq; omega)).below hb3
  have hk4 := hk3'.trans (Keeps.of_below hb3)
  have hW4 := (hC.on hR3).wantsU pl_then hP3 _ hb3
  rw [World.size_alloc] at hW4
  obtain ⟨t3, ht3⟩ : ∃ t3, w3.heap.size = t3 := ⟨_, rfl⟩
  clear hc1 hP3 h2 hk3 hk3' hN1
  rw [ht3] at hW4 q4 hzw
  refine Lib.hid ?_
  go_wp2_with (go_at_call 93; refine hW4.mono ?_; rintro e w5 (⟨rfl, hle, rfl, hk5⟩ | ⟨hP5, rfl, hR5, hk5⟩); (exact ⟨rfl, close_pan rfl hle (hk4.trans hk5)⟩); (try dsimp only at hP5); have hk5' := hk4.trans hk5; have p3 := hk5.box q4 (by omega); have p2 := hk5.box g3' (by omega); have hN5 := hN1'.keep hk5 (fun q hq _ => by omega))
  have hz5 := block_lt p3
  have hC5 := hC.on hR5
  have hc6 := fun u (h : Ctx u B ts (j1 + 1)) => callU hP5 (fun r0 h0 => hB r0 B ts (j1 + 1) u h h0)
  clear ht3 hW4 hP5 hk5 hk4 q4 g3' hN1' g3 hR3 hb3
  go_cut [4] (fun s4 wx => ∃ t4 n2 j2, s4 = .pointer (some ⟨t4, 0, none⟩) ∧ PB w wx B ts 8 n1 n2 t4 j2 ∧ (if tx (rest ts j2) = W.else_ then (P f 7 (nd 4 []) 0 (rest ts j2).tail).on fun c l => need W.end_ l fun l => .ok (nd 8 [n1, n2, c]) l else need W.end_ (rest ts j2) fun l => .ok (nd 8 [n1, n2]) l) = some r)
  case first =>
    obtain ⟨c0, c1, c2, c3, f0, f1, f2, f3⟩ := in4 p3
    obtain ⟨x0, x1, x2, x3, y0, y1, y2, y3⟩ := in4a p3
    go_region_with (first
      | (go_at_call 97; refine (hc6 _ (hC5.below ((Below.refl _ _).drew))).mono ?_; rintro e w6 (⟨j, rfl, hle, rfl, hk6⟩ | ⟨n2, j2, b2, cap2, hP6, rfl, hN6, hR6, hk6⟩); (exact ⟨rfl, close_pan rfl hle ((hk5'.drew).trans hk6)⟩); have g3 := hk6.box p3 (by omega); have g2 := hk6.box p2 (by omega); obtain ⟨c0, c1, c2, c3, f0, f1, f2, f3⟩ := in4 g3; obtain ⟨x0, x1, x2, x3, y0, y1, y2, y3⟩ := in4a g3; have hNx : NdV (fun q => w.heap.size < q) w6 n1 (ndv n1 b1 cap1) := (hN5.below ((Below.refl _ _).drew)).keep hk6 (fun q hq _ => by omega); have hNy : NdV (fun q => w.heap.size < q) w6 n2 (ndv n2 b2 cap2) := hN6.weak (fun q hq _ => by simp at hq; omega); have hk6' := (hk5'.drew).trans hk6)
      | (go_at_call 97; refine (hc6 _ (hC5.below ((ext_alloc (Below.refl _ _) zbx).drew))).mono ?_; rintro e w6 (⟨j, rfl, hle, rfl, hk6⟩ | ⟨n2, j2, b2, cap2, hP6, rfl, hN6, hR6, hk6⟩); (exact ⟨rfl, close_pan rfl hle (((hk5'.alloc zbx).drew).trans hk6)⟩); have g3 := hk6.box (W := (w5.alloc zbx).drew) (block_alloc zbx p3) (by omega); have g2 := hk6.box (W := (w5.alloc zbx).drew) (block_alloc zbx p2) (by omega); have g4 := hk6.box (W := (w5.alloc zbx).drew) (alloc_new w5 zbx) (by omega); obtain ⟨c0, c1, c2, c3, f0, f1, f2, f3⟩ := in4 g3; obtain ⟨x0, x1, x2, x3, y0, y1, y2, y3⟩ := in4a g3; obtain ⟨u0, u1, u2, u3, v0, v1, v2, v3⟩ := in4a g4; have hNx : NdV (fun q => w.heap.size < q ∧ q ≠ w5.heap.size) w6 n1 (ndv n1 b1 cap1) := ((hN5.weak (S' := fun q => w.heap.size < q ∧ q ≠ w5.heap.size) (fun q hq hlt => ⟨hq, by omega⟩)).below ((ext_alloc (Below.refl _ _) zbx).drew)).keep hk6 (fun q hq _ => by omega); have hNy : NdV (fun q => w.heap.size < q ∧ q ≠ w5.heap.size) w6 n2 (ndv n2 b2 cap2) := hN6.weak (fun q hq _ => by simp at hq; omega); have hk6' := ((hk5'.alloc zbx).drew).trans hk6))
    all_goals
      go_wp2
      go_meet
      case rel => first
        | exact ⟨_, n2, j2, rfl, pb_A 8 hNx hNy g2 hR6 hk6', hP6⟩
        | exact ⟨_, n2, j2, rfl, pb_C 8 hNx hNy g2 hR6 hk6', hP6⟩
        | exact ⟨_, n2, j2, rfl, pb_B 8 hNx hNy g2 g4 (by omega) hBw hR6 hk6', hP6⟩
  case rest =>
    obtain ⟨t4, n2, j2, rfl, hPB, hr⟩ := hcut
    obtain ⟨b4, cap4, q4, hRow4, hown4⟩ := hPB.box
    have q2 := hPB.ans
    have hz4 := hPB.lt
    have hCc := hC.on hPB.R
    clear hc6 p3 p2 hN5 hk5'
    by_cases hel : tx (rest ts j2) = W.else_
    · rw [if_pos hel, rest_tail] at hr
      have hT := hCc.takes_yes pl_else hel wc (Below.refl _ _)
      have hc7 := fun u (h : Ctx u B ts (j2 + 1)) => callU hr (fun r0 h0 => hB r0 B ts (j2 + 1) u h h0)
      clear hr
      go_wp2_with (go_at_call 96; refine hT.mono ?_; rintro e w7 ⟨rfl, hR7, hk7⟩)
      have p4 := hk7.box q4 (by omega)
      have p2 := hk7.box q2 (by omega)
      have hRow7 := hRow4.keep hk7 (fun q hq _ => by omega)
      have hC7 := hC.on hR7
      have hkw7 := hPB.K.trans hk7
      have hz7 := block_lt p4
      obtain ⟨_, _, _, hform⟩ := hRow7.form
      replace hform : Hid _ := hform
      replace hown4 : Hid _ := hown4
      clear hT q4 q2 hRow4 hk7
      go_cut [4] (fun s4 wx => s4 = .pointer (some ⟨t4, 0, none⟩) ∧ ∃ n3 j3 b3 cap3, wx.heap[t4]? = some (nbx (nd 8 [n1, n2, n3]) b3 cap3) ∧ NdV (fun q => w.heap.size < q ∧ q ≠ t4) wx (nd 8 [n1, n2, n3]) (ndv (nd 8 [n1, n2, n3]) b3 cap3) ∧ wx.heap[w.heap.size]? = some zbx ∧ Rd wx B ts j3 ∧ Keeps (fun k => k = B) w wx ∧ need W.end_ (rest ts j3) (fun l => .ok (nd 8 [n1, n2, n3]) l) = some r)
      case first =>
        obtain ⟨c0, c1, c2, c3, f0, f1, f2, f3⟩ := in4 p4
        go_region_law (first
          | (refine step_append_lies _ (by rfl) _ _ _ (by rfl) 0 24 i0 _ 4 56 Tryz.underlying22 hi0 hz0 hz1 hz2 rfl (by omega) (.slice b4 2 cap4) 2 _ (by rfl) ho ⟨w8.heap.size, 0, none⟩ 1 1 _ (by rfl) (by rfl) (cells_of n3 b3 cap3 (alloc_new w8 (nbx n3 b3 cap3))) (by simp [Value.oneCell']) (by omega) (by decide) (by decide) (Nat.zero_le _) _ rfl ?_; intro g5 cap5 w9 hown5 hgrow hat hlt5; have p4w := (hgrow.block _ (block_lt g4) hne4).trans g4; obtain ⟨c0, c1, c2, c3, f0, f1, f2, f3⟩ := in4 p4w)
          | (go_simp; go_at_call 97; refine (hc7 _ (hC7.below ((Below.refl _ _).drew))).mono ?_; rintro e w8 (⟨j, rfl, hle, rfl, hk8⟩ | ⟨n3, j3, b3, cap3, hP8, rfl, hN8, hR8, hk8'⟩); (exact ⟨rfl, close_pan rfl hle ((hkw7.drew).trans hk8)⟩); have hk8 := ((Keeps.refl (fun k => k = B) w7).drew).trans hk8'; clear hk8'; have pw4 := hk8.box p4 (by omega); have g4 := block_alloc (nbx n3 b3 cap3) pw4; have g2 := block_alloc (nbx n3 b3 cap3) (hk8.box p2 (by omega)); obtain ⟨c0, c1, c2, c3, f0, f1, f2, f3⟩ := in4 pw4; obtain ⟨d0, d1, d2, d3, e0, e1, e2, e3⟩ := in4a pw4; obtain ⟨xs, ho, hs, hn⟩ := ((hRow7.keep hk8 (fun q hq _ => by omega)).below (ext_alloc (Below.refl _ _) (nbx n3 b3 cap3))).own; have hne4 : some t4 ≠ Value.ownBlock (.slice b4 2 cap4) := fun e => (hs _ e.symm).2 rfl))
        all_goals
          go_wp2
          go_meet
          case rel =>
            have hb8a := ext_alloc (Below.refl w8.heap.size w8) (nbx n3 b3 cap3)
            have hz8 := hk8.size
            have hy : NdV (fun q => (w.heap.size < q ∧ q ≠ t4) ∧ some q ≠ Value.ownBlock (.slice b4 2 cap4)) (w8.alloc (nbx n3 b3 cap3)) n3 (ndv n3 b3 cap3) := (hN8.weak (fun q hq _ => by simp at hq; exact ⟨⟨by omega, by omega⟩, fun e => by have := (hform.out q e.symm).2; omega⟩)).below hb8a
            obtain ⟨hRow9, q4, hk9, _⟩ := kids_step (ks := [n1, n2]) (lo := w.heap.size + 1) ho hs hn hy (fun q hq => hq.2) (fun q hq => by simp at hq; exact ⟨by omega, by omega⟩) (fun q e => hown4.out q e) (by simp; omega) g4 hown5 hgrow hat rfl
            exact ⟨rfl, n3, j3, _, _, q4, hRow9.node 8 [] 0, hk9.box g2 (fun e => by rcases e with e | e; omega; have := hown4.out _ e.symm; omega), (hR8.below hb8a).keep hk9 (fun q hq e => by rcases e with e | e; omega; have := hown4.out q e.symm; omega), ((hkw7.trans hk8).trans (Keeps.of_below hb8a)).then hk9 (fun q hq e => by rcases e with e | e; omega; have := hown4.out q e.symm; omega), hP8⟩
      case rest =>
        obtain ⟨rfl, n3, j3, b3, cap3, q4, hNN, q2, hR9, hk9, hr⟩ := hcut
        have hW9 := (hC.on hR9).wantsU pl_end hr _ (Below.refl _ _)
        clear hr hc7
        go_wp2_with (go_at_call 93; refine hW9.mono ?_; rintro e w8 (⟨rfl, hle, rfl, hk8⟩ | ⟨hP8, rfl, hR8, hk8⟩); (exact ⟨rfl, close_pan rfl hle (hk9.trans hk8)⟩); have g4 := hk8.box q4 (by omega); have g2 := hk8.box q2 (by omega); obtain ⟨c0, c1, c2, c3, f0, f1, f2, f3⟩ := in4 g4; obtain ⟨d0, d1, d2, d3, e0, e1, e2, e3⟩ := in4 g2)
        refine bodyPost_ret (res138 rfl (put4_same _ _ _ _ g2)) rfl ?_
        obtain rfl := Option.some.inj hP8
        exact close_ret (N := nd 8 [n1, n2, n3]) rfl ((hNN.keep hk8 (fun q hq _ => by omega)).weak (fun q hq _ => ⟨.inr (by omega), by omega⟩)) hR8 (hk9.trans hk8) (Nat.le_refl _) hBw
    · rw [if_neg hel] at hr
      have hT := hCc.takes_no pl_else hel wc (Below.refl _ _)
      have hNN := hRow4.node 8 [] 0
      have hW7 := fun u hb => hCc.wantsU pl_end hr u hb
      clear hr
      go_wp2_with (first
        | (go_at_call 96; refine hT.mono ?_; rintro e w7 ⟨rfl, hb7⟩)
        | (go_at_call 93; refine (hW7 _ hb7).mono ?_; rintro e w8 (⟨rfl, hle, rfl, hk8⟩ | ⟨hP8, rfl, hR8, hk8⟩); (exact ⟨rfl, close_pan rfl hle ((hPB.K.trans (Keeps.of_below hb7)).trans hk8)⟩); have g4 := hk8.box (block_below hb7 q4) (by omega); have g2 := hk8.box (block_below hb7 q2) (by omega); obtain ⟨c0, c1, c2, c3, f0, f1, f2, f3⟩ := in4 g4; obtain ⟨d0, d1, d2, d3, e0, e1, e2, e3⟩ := in4 g2))
      refine bodyPost_ret (res138 rfl (put4_same _ _ _ _ g2)) rfl ?_
      obtain rfl := Option.some.inj hP8
      exact close_ret (N := nd 8 [n1, n2]) rfl (((hNN.below hb7).keep hk8 (fun q hq _ => by omega)).weak (fun q hq _ => ⟨.inr (by omega), by omega⟩)) hR8 ((hPB.K.trans (Keeps.of_below hb7)).trans hk8) (Nat.le_refl _) hBw
end Go.Proofs.YtbofdfdmikhanaaGreatDoor
