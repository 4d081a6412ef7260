/- The program's reader: what an expression is made of: the walk. -/
import Derived.Test.YtnnppenlfocgiaaGreatDoorK28
namespace Go.Proofs.YtnnppenlfocgiaaGreatDoor
open Go.RowKit
open Go

theorem res178 {tm : Array Value} {W : World} {B : Nat} {a b c d : Value} (h : tm[2]?.getD undef = .pointer (some ⟨B, 0, none⟩)) (hx : W.heap[B]? = some (.cells #[a, b, c, d] 24)) : (results Tryz.f149 tm).run Tryz.prog W = .ok (.agg #[a, b, c, d]) W := by
  obtain ⟨c0, c1, c2, c3, _, _, _, _⟩ := in4 hx
  simp [results, Tryz.results149, go_sem, h, c0, c1, c2, c3]
set_option maxRecDepth 20000 in
set_option maxHeartbeats 800000 in
theorem sim_lit (B : Nat) (ts : List Tok) (i : Nat) (k : Int) (t : List UInt8) (n : Int) (w : World) (hC : Ctx w B ts i) (hL : ∀ u, Ctx u B ts i → Calls Tryz.prog 152 #[.pointer (some ⟨B, 0, none⟩)] u (LU u B ts ⟨k, t, n, []⟩ true (i + 1))) : Calls Tryz.prog 149 #[.pointer (some ⟨B, 0, none⟩)] w (PAns no w B ts (.inr (⟨k, t, n, []⟩, rest ts (i + 1)))) := by
  have hBw := hC.R.lt
  have hb0 : Below w.heap.size w (w.alloc zbx) := ext_alloc (Below.refl _ _) _
  have h2 := alloc_new w zbx
  have hk0 : Keeps (fun k => k = B) w (w.alloc zbx) := Keeps.of_below hb0
  have hc := hL _ (hC.below hb0)
  clear hL
  go_enter Tryz.func149, Tryz.ntmps149
  go_wp2_with (go_at_call 152; refine hc.mono ?_; rintro e w1 ⟨rfl, hR1, hk1⟩; have g2 := hk1.box h2 (by omega); obtain ⟨x0, x1, x2, x3, y0, y1, y2, y3⟩ := in4a g2; refine Hid.out ?_)
  refine Lib.hid ?_
  go_wp2
  have hb1 : Below w1.heap.size w1 (w1.alloc (nbx ⟨k, t, n, []⟩ none 0)) := ext_alloc (Below.refl _ _) _
  refine bodyPost_ret (res178 rfl (put4_same _ _ _ _ (block_alloc _ g2))) rfl ?_
  exact close_ret (N := ⟨k, t, n, []⟩) rfl (ndV_leaf _ _ k t n) (hR1.below hb1) ((hk0.trans hk1).trans (Keeps.of_below hb1)) (Nat.le_refl _) hBw
set_option maxRecDepth 20000 in
set_option maxHeartbeats 1000000 in
theorem sim_lc (q : Int) (r : PRes) (B : Nat) (ts : List Tok) (i : Nat) (w : World) (hC : Ctx w B ts i) (hL : ∀ u, Ctx u B ts i → Calls Tryz.prog 152 #[.pointer (some ⟨B, 0, none⟩)] u (LU u B ts ⟨q, [], 0, []⟩ false i)) (hy : tx (rest ts i) = S.lc) (hP : need S.rc (rest ts (i + 1)) (fun l => .ok (nd 19 []) l) = some r) : Calls Tryz.prog 149 #[.pointer (some ⟨B, 0, none⟩)] w (PAns no w B ts r) := by
  have hBw := hC.R.lt
  have hb0 : Below w.heap.size w (w.alloc zbx) := ext_alloc (Below.refl _ _) _
  have h2 := alloc_new w zbx
  have hk0 : Keeps (fun k => k = B) w (w.alloc zbx) := Keeps.of_below hb0
  have hc := hL _ (hC.below hb0)
  clear hL
  go_enter Tryz.func149, Tryz.ntmps149
  go_wp2_with (first | (go_at_call 152; refine hc.mono ?_; rintro e w1 ⟨rfl, hR1, hk1⟩; have g2 := hk1.box h2 (by omega)) | (go_at_call 85; refine Hid.out ?_))
  have hb1 : Below w1.heap.size w1 (w1.alloc (nbx ⟨q, [], 0, []⟩ none 0)) := ext_alloc (Below.refl _ _) _
  have hCU := hC.on (hR1.below hb1)
  have z0 := block_below hb1 g2
  have hkU := (hk0.trans hk1).trans (Keeps.of_below hb1)
  obtain ⟨U, hU⟩ : ∃ U, w1.alloc (nbx ⟨q, [], 0, []⟩ none 0) = U := ⟨_, rfl⟩
  rw [hU] at hCU z0 hkU
  replace hU : w1.alloc (.cells #[.int .i64 q, .string ⟨#[]⟩, .int .i64 0, .slice none 0 0] 24) = U := hU
  have hTy := fun u hb => hCU.takes_yes pl_lc hy u hb
  have hb0 := Below.refl U.heap.size U
  have hzU := block_lt z0
  clear hc hR1 hk1 hk0 g2 h2 hb1
  rw [hU]
  clear hU
  refine Lib.hid ?_
  go_wp2_with (first
    | (go_at_call_of 85 (Value.string ⟨#[123]⟩); refine (hTy _ hb0).mono ?_; rintro e wy ⟨rfl, hRy, hky⟩; have hkw := (hkU.trans (Keeps.of_below (S := fun k => k = B) hb0)).trans hky; have g2 := hky.box z0 (by omega); have hCX := hC.on hRy)
    | (go_at_call 82; refine (hCX.wantsU pl_rc hP _ (Below.refl _ _)).mono ?_; rintro e w3 (⟨rfl, hle, rfl, hk3⟩ | ⟨hP3, rfl, hR3, hk3⟩); (exact ⟨rfl, close_pan rfl hle (hkw.trans hk3)⟩); have q2 := hk3.box g2 (by omega); obtain ⟨c0, c1, c2, c3, f0, f1, f2, f3⟩ := in4 q2))
  obtain rfl := Option.some.inj hP3
  refine bodyPost_ret (res178 rfl (put4_same _ _ _ _ q2)) rfl ?_
  exact close_ret (N := nd 19 []) rfl (ndV_leaf _ _ 19 [] 0) hR3 (hkw.trans hk3) (Nat.le_refl _) hBw
set_option maxRecDepth 20000 in
set_option maxHeartbeats 1000000 in
theorem sim_next (f : Nat) (q : Int) (r : PRes) (B : Nat) (ts : List Tok) (i : Nat) (w : World) (hC : Ctx w B ts i) (hL : ∀ u, Ctx u B ts i → Calls Tryz.prog 152 #[.pointer (some ⟨B, 0, none⟩)] u (LU u B ts ⟨q, [], 0, []⟩ false i)) (hE : ExprC f) (hn0 : ¬ tx (rest ts i) = S.lc) (hy : tx (rest ts i) = W.next_) (hP : need S.lp (rest ts (i + 1)) (fun l => (P f 0 nil0 0 l).on fun x l => need S.cm l fun l => (P f 0 nil0 0 l).on fun y l => need S.rp l fun l => .ok (nd 26 [x, y]) l) = some r) : Calls Tryz.prog 149 #[.pointer (some ⟨B, 0, none⟩)] w (PAns no w B ts r) := by
  have hBw := hC.R.lt
  have hb0 : Below w.heap.size w (w.alloc zbx) := ext_alloc (Below.refl _ _) _
  have h2 := alloc_new w zbx
  have hk0 : Keeps (fun k => k = B) w (w.alloc zbx) := Keeps.of_below hb0
  have hc := hL _ (hC.below hb0)
  clear hL
  go_enter Tryz.func149, Tryz.ntmps149
  go_wp2_with (first | (go_at_call 152; refine hc.mono ?_; rintro e w1 ⟨rfl, hR1, hk1⟩; have g2 := hk1.box h2 (by omega)) | (go_at_call 85; refine Hid.out ?_))
  have hb1 : Below w1.heap.size w1 (w1.alloc (nbx ⟨q, [], 0, []⟩ none 0)) := ext_alloc (Below.refl _ _) _
  have hCU := hC.on (hR1.below hb1)
  have z0 := block_below hb1 g2
  have hkU := (hk0.trans hk1).trans (Keeps.of_below hb1)
  obtain ⟨U, hU⟩ : ∃ U, w1.alloc (nbx ⟨q, [], 0, []⟩ none 0) = U := ⟨_, rfl⟩
  rw [hU] at hCU z0 hkU
  replace hU : w1.alloc (.cells #[.int .i64 q, .string ⟨#[]⟩, .int .i64 0, .slice none 0 0] 24) = U := hU
  have hT0 := fun u hb => hCU.takes_no pl_lc hn0 u hb
  have hTy := fun u hb => hCU.takes_yes pl_next hy u hb
  have hb0 := Below.refl U.heap.size U
  have hzU := block_lt z0
  clear hc hR1 hk1 hk0 g2 h2 hb1
  rw [hU]
  clear hU
  refine Lib.hid ?_
  cases r with
  | inl l =>
    go_wp2_with (first
    | (go_at_call_of 85 (Value.string ⟨#[123]⟩); refine (hT0 _ hb0).mono ?_; rintro e w2 ⟨rfl, hbx1⟩; have hb1 := ext_trans hb0 hbx1; have z1 := block_below hbx1 z0)
    | (go_at_call_of 85 (Value.string ⟨#[110, 101, 120, 116]⟩); refine (hTy _ hb1).mono ?_; rintro e wy ⟨rfl, hRy, hky⟩; have hkw := (hkU.trans (Keeps.of_below (S := fun k => k = B) hb1)).trans hky; have g2 := hky.box z1 (by omega); have hCX := hC.on hRy)
    | (go_at_call 153; refine (next_of f hE _ B ts _ _ hCX hP).mono ?_; rintro e w3 ⟨j, hj, hle, rfl, hk3⟩))
    exact ⟨rfl, close_pan hj hle (hkw.trans hk3)⟩
  | inr p =>
    obtain ⟨n, l⟩ := p
    go_wp2_with (first
    | (go_at_call_of 85 (Value.string ⟨#[123]⟩); refine (hT0 _ hb0).mono ?_; rintro e w2 ⟨rfl, hbx1⟩; have hb1 := ext_trans hb0 hbx1; have z1 := block_below hbx1 z0)
    | (go_at_call_of 85 (Value.string ⟨#[110, 101, 120, 116]⟩); refine (hTy _ hb1).mono ?_; rintro e wy ⟨rfl, hRy, hky⟩; have hkw := (hkU.trans (Keeps.of_below (S := fun k => k = B) hb1)).trans hky; have g2 := hky.box z1 (by omega); have hCX := hC.on hRy)
    | (go_at_call 153; refine (next_of f hE _ B ts _ _ hCX hP).mono ?_; rintro e w3 ⟨j, b, cap, hj, rfl, hN, hR, hk3⟩; have q2 := hk3.box g2 (by omega); obtain ⟨c0, c1, c2, c3, f0, f1, f2, f3⟩ := in4 q2))
    refine bodyPost_ret (res178 rfl (put4_same _ _ _ _ q2)) rfl ?_
    exact close_ret hj (hN.weak (fun q hq _ => by have := block_lt g2; rcases hq with hq | hq; exact hq.elim; exact ⟨.inr (by omega), by omega⟩)) hR (hkw.trans hk3) (Nat.le_refl _) hBw
set_option maxRecDepth 20000 in
set_option maxHeartbeats 1000000 in
theorem sim_lp (f : Nat) (q : Int) (r : PRes) (B : Nat) (ts : List Tok) (i : Nat) (w : World) (hC : Ctx w B ts i) (hL : ∀ u, Ctx u B ts i → Calls Tryz.prog 152 #[.pointer (some ⟨B, 0, none⟩)] u (LU u B ts ⟨q, [], 0, []⟩ false i)) (hE : ExprC f) (hn0 : ¬ tx (rest ts i) = S.lc) (hn1 : ¬ tx (rest ts i) = W.next_) (hy : tx (rest ts i) = S.lp) (hP : (P f 0 nil0 0 (rest ts (i + 1))).on (fun n l => need S.rp l fun l => .ok n l) = some r) : Calls Tryz.prog 149 #[.pointer (some ⟨B, 0, none⟩)] w (PAns no w B ts r) := by
  have hBw := hC.R.lt
  have hb0 : Below w.heap.size w (w.alloc zbx) := ext_alloc (Below.refl _ _) _
  have h2 := alloc_new w zbx
  have hk0 : Keeps (fun k => k = B) w (w.alloc zbx) := Keeps.of_below hb0
  have hc := hL _ (hC.below hb0)
  clear hL
  go_enter Tryz.func149, Tryz.ntmps149
  go_wp2_with (first | (go_at_call 152; refine hc.mono ?_; rintro e w1 ⟨rfl, hR1, hk1⟩; have g2 := hk1.box h2 (by omega)) | (go_at_call 85; refine Hid.out ?_))
  have hb1 : Below w1.heap.size w1 (w1.alloc (nbx ⟨q, [], 0, []⟩ none 0)) := ext_alloc (Below.refl _ _) _
  have hCU := hC.on (hR1.below hb1)
  have z0 := block_below hb1 g2
  have hkU := (hk0.trans hk1).trans (Keeps.of_below hb1)
  obtain ⟨U, hU⟩ : ∃ U, w1.alloc (nbx ⟨q, [], 0, []⟩ none 0) = U := ⟨_, rfl⟩
  rw [hU] at hCU z0 hkU
  replace hU : w1.alloc (.cells #[.int .i64 q, .string ⟨#[]⟩, .int .i64 0, .slice none 0 0] 24) = U := hU
  have hT0 := fun u hb => hCU.takes_no pl_lc hn0 u hb
  have hT1 := fun u hb => hCU.takes_no pl_next hn1 u hb
  have hTy := fun u hb => hCU.takes_yes pl_lp hy u hb
  have hb0 := Below.refl U.heap.size U
  have hzU := block_lt z0
  clear hc hR1 hk1 hk0 g2 h2 hb1
  rw [hU]
  clear hU
  refine Lib.hid ?_
  go_wp2_with (first
    | (go_at_call_of 85 (Value.string ⟨#[123]⟩); refine (hT0 _ hb0).mono ?_; rintro e w2 ⟨rfl, hbx1⟩; have hb1 := ext_trans hb0 hbx1; have z1 := block_below hbx1 z0)
    | (go_at_call_of 85 (Value.string ⟨#[110, 101, 120, 116]⟩); refine (hT1 _ hb1).mono ?_; rintro e w3 ⟨rfl, hbx2⟩; have hb2 := ext_trans hb1 hbx2; have z2 := block_below hbx2 z1)
    | (go_at_call_of 85 (Value.string ⟨#[40]⟩); refine (hTy _ hb2).mono ?_; rintro e wy ⟨rfl, hRy, hky⟩; have hkw := (hkU.trans (Keeps.of_below (S := fun k => k = B) hb2)).trans hky; have g2 := hky.box z2 (by omega); have hCX := hC.on hRy)
    | (go_at_call 130; refine (callU hP (fun r0 h => hE r0 B ts _ _ hCX h)).mono ?_; rintro e w3 (⟨j, rfl, hle, rfl, hk3⟩ | ⟨n1, j1, b1, cap1, hP3, rfl, hN1, hR3, hk3⟩); (exact ⟨rfl, close_pan rfl hle (hkw.trans hk3)⟩); (try dsimp only at hP3); have hk3' := hkw.trans hk3; have g3 := hk3.box g2 (by omega); have hzy := hky.size; have hzb := hb2.size; refine Hid.out ?_))
  have hz3 := hk3.size
  have hb3 : Below w3.heap.size w3 (w3.alloc (nbx n1 b1 cap1)) := ext_alloc (Below.refl _ _) _
  have q4 := alloc_new w3 (nbx n1 b1 cap1)
  have g3' := block_below hb3 g3
  have hN1' : NdV (fun q => w.heap.size < q) (w3.alloc (nbx n1 b1 cap1)) n1 (ndv n1 b1 cap1) := (hN1.weak (fun q hq _ => by omega)).below hb3
  have hk4 := hk3'.trans (Keeps.of_below hb3)
  have hW4 := (hC.on hR3).wantsU pl_rp hP3 _ hb3
  rw [World.size_alloc] at hW4
  clear hT0 hT1 hTy hP3 hP
  refine Lib.hid ?_
  go_wp2_with (go_at_call 82; refine hW4.mono ?_; rintro e w5 (⟨rfl, hle, rfl, hk5⟩ | ⟨hP5, rfl, hR5, hk5⟩); (exact ⟨rfl, close_pan rfl hle (hk4.trans hk5)⟩); have p3 := hk5.box q4 (by omega); have p2 := hk5.box g3' (by omega); obtain ⟨c0, c1, c2, c3, f0, f1, f2, f3⟩ := in4 p3; obtain ⟨d0, d1, d2, d3, e0, e1, e2, e3⟩ := in4 p2)
  obtain rfl := Option.some.inj hP5
  refine bodyPost_ret (res178 rfl (put4_same _ _ _ _ p2)) rfl ?_
  exact close_ret rfl ((hN1'.keep hk5 (fun q hq _ => by omega)).weak (fun q hq _ => ⟨.inr (by omega), by omega⟩)) hR5 (hk4.trans hk5) (Nat.le_refl _) hBw
set_option maxRecDepth 20000 in
set_option maxHeartbeats 1000000 in
theorem sim_name (q : Int) (r : PRes) (B : Nat) (ts : List Tok) (i : Nat) (w : World) (hC : Ctx w B ts i) (hL : ∀ u, Ctx u B ts i → Calls Tryz.prog 152 #[.pointer (some ⟨B, 0, none⟩)] u (LU u B ts ⟨q, [], 0, []⟩ false i)) (hn0 : ¬ tx (rest ts i) = S.lc) (hn1 : ¬ tx (rest ts i) = W.next_) (hn2 : ¬ tx (rest ts i) = S.lp) (hP : needName (rest ts i) (fun s l => .ok ⟨18, s, 0, []⟩ l) = some r) : Calls Tryz.prog 149 #[.pointer (some ⟨B, 0, none⟩)] w (PAns no w B ts r) := by
  have hBw := hC.R.lt
  have hb0 : Below w.heap.size w (w.alloc zbx) := ext_alloc (Below.refl _ _) _
  have h2 := alloc_new w zbx
  have hk0 : Keeps (fun k => k = B) w (w.alloc zbx) := Keeps.of_below hb0
  have hc := hL _ (hC.below hb0)
  clear hL
  go_enter Tryz.func149, Tryz.ntmps149
  go_wp2_with (first | (go_at_call 152; refine hc.mono ?_; rintro e w1 ⟨rfl, hR1, hk1⟩; have g2 := hk1.box h2 (by omega)) | (go_at_call 85; refine Hid.out ?_))
  have hb1 : Below w1.heap.size w1 (w1.alloc (nbx ⟨q, [], 0, []⟩ none 0)) := ext_alloc (Below.refl _ _) _
  have hCU := hC.on (hR1.below hb1)
  have z0 := block_below hb1 g2
  have hkU := (hk0.trans hk1).trans (Keeps.of_below hb1)
  obtain ⟨U, hU⟩ : ∃ U, w1.alloc (nbx ⟨q, [], 0, []⟩ none 0) = U := ⟨_, rfl⟩
  rw [hU] at hCU z0 hkU
  replace hU : w1.alloc (.cells #[.int .i64 q, .string ⟨#[]⟩, .int .i64 0, .slice none 0 0] 24) = U := hU
  have hT0 := fun u hb => hCU.takes_no pl_lc hn0 u hb
  have hT1 := fun u hb => hCU.takes_no pl_next hn1 u hb
  have hT2 := fun u hb => hCU.takes_no pl_lp hn2 u hb
  have hb0 := Below.refl U.heap.size U
  have hzU := block_lt z0
  clear hc hR1 hk1 hk0 g2 h2 hb1
  rw [hU]
  clear hU
  refine Lib.hid ?_
  go_wp2_with (first
    | (go_at_call_of 85 (Value.string ⟨#[123]⟩); refine (hT0 _ hb0).mono ?_; rintro e w2 ⟨rfl, hbx1⟩; have hb1 := ext_trans hb0 hbx1; have z1 := block_below hbx1 z0)
    | (go_at_call_of 85 (Value.string ⟨#[110, 101, 120, 116]⟩); refine (hT1 _ hb1).mono ?_; rintro e w3 ⟨rfl, hbx2⟩; have hb2 := ext_trans hb1 hbx2; have z2 := block_below hbx2 z1)
    | (go_at_call_of 85 (Value.string ⟨#[40]⟩); refine (hT2 _ hb2).mono ?_; rintro e w4 ⟨rfl, hbx3⟩; have hb3 := ext_trans hb2 hbx3; have z3 := block_below hbx3 z2)
    | (go_at_call 83; refine (hCU.nameU hP _ hb3).mono ?_; rintro e w6 (⟨rfl, hle, rfl, hk6⟩ | ⟨s, hP6, rfl, hR6, hk6⟩); (exact ⟨rfl, close_pan rfl hle ((hkU.trans (Keeps.of_below hb3)).trans hk6)⟩); have g2 := hk6.box z3 (by omega); obtain ⟨c0, c1, c2, c3, f0, f1, f2, f3⟩ := in4 g2))
  obtain rfl := Option.some.inj hP6
  refine bodyPost_ret (res178 rfl (put4_same _ _ _ _ g2)) rfl ?_
  exact close_ret (N := ⟨18, s, 0, []⟩) rfl (ndV_leaf _ _ 18 s 0) hR6 ((hkU.trans (Keeps.of_below hb3)).trans hk6) (Nat.le_refl _) hBw
theorem sim_of (f : Nat) (hE : ExprC f) : SimC (f + 1) := by
  intro r B ts i w hC hP
  rcases lit_any f r B ts i w hC hP with ⟨N, rfl, hk, hL⟩ | ⟨q, hA, hL⟩
  · obtain ⟨k, t, n, kids⟩ := N
    simp only at hk
    subst hk
    exact sim_lit B ts i k t n w hC hL
  · unfold afterLit at hA
    rw [rest_tail] at hA
    split at hA
    · rename_i h1
      exact sim_lc q r B ts i w hC hL h1 hA
    rename_i h1
    split at hA
    · rename_i h2
      exact sim_next f q r B ts i w hC hL hE h1 h2 hA
    rename_i h2
    split at hA
    · rename_i h3
      exact sim_lp f q r B ts i w hC hL hE h1 h2 h3 hA
    · rename_i h3
      exact sim_name q r B ts i w hC hL h1 h2 h3 hA
end Go.Proofs.YtnnppenlfocgiaaGreatDoor
