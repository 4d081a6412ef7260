/- The program's reader: a statement. -/
import Derived.Test.YtbofdfdmikhanaaGreatDoorJ32
namespace Go.Proofs.YtbofdfdmikhanaaGreatDoor
open Go.RowKit
open Go

theorem res115 {tm : Array Value} {W : World} {B : Nat} {a b c d : Value} (h : tm[2]?.getD undef = .pointer (some ⟨B, 0, none⟩)) (hx : W.heap[B]? = some (.cells #[a, b, c, d] 24)) : (results Tryz.f115 tm).run Tryz.prog W = .ok (.agg #[a, b, c, d]) W := by
  obtain ⟨c0, c1, c2, c3, _, _, _, _⟩ := in4 hx
  simp [results, Tryz.results115, go_sem, h, c0, c1, c2, c3]
theorem pl_local : plainS W.local_ := ⟨_, _, rfl, rfl⟩
theorem pl_if : plainS W.if_ := ⟨_, _, rfl, rfl⟩
theorem pl_while : plainS W.while_ := ⟨_, _, rfl, rfl⟩
theorem pl_for : plainS W.for_ := ⟨_, _, rfl, rfl⟩
theorem pl_return : plainS W.return_ := ⟨_, _, rfl, rfl⟩
theorem pl_emit : plainS W.emit_ := ⟨_, _, rfl, rfl⟩
set_option maxRecDepth 20000 in
set_option maxHeartbeats 1000000 in
theorem stat_0 (r : PRes) (B : Nat) (ts : List Tok) (i : Nat) (w : World) (hC : Ctx w B ts i)  (hy : tx (rest ts i) = W.local_) (hX : ∀ u, Ctx u B ts (i + 1) → Calls Tryz.prog 137 #[.pointer (some ⟨B, 0, none⟩)] u (PAns no u B ts r)) : Calls Tryz.prog 115 #[.pointer (some ⟨B, 0, none⟩)] w (PAns no w B ts r) := by
  have hBw := hC.R.lt
  have hb0 : Below w.heap.size w (w.alloc zbx) := ext_alloc (Below.refl _ _) _
  have z0 := alloc_new w zbx
  have hTy := fun u hb => hC.takes_yes pl_local hy u hb
  cases r with
  | inl l =>
    go_enter Tryz.func115, Tryz.ntmps115
    go_wp2_with (first
    | (go_at_call_of 96 (Value.string ⟨#[108, 111, 99, 97, 108]⟩); refine (hTy _ hb0).mono ?_; rintro e wy ⟨rfl, hRy, hky⟩; have hkw := (Keeps.of_below (S := fun k => k = B) hb0).trans hky; have g2 := hky.box z0 (by omega); have hCX := hC.on hRy)
    | (go_at_call 137; refine (hX _ hCX).mono ?_; rintro e wz ⟨j, hj, hle, rfl, hkz⟩))
    exact ⟨rfl, close_pan hj hle (hkw.trans hkz)⟩
  | inr p =>
    obtain ⟨n, l⟩ := p
    go_enter Tryz.func115, Tryz.ntmps115
    go_wp2_with (first
    | (go_at_call_of 96 (Value.string ⟨#[108, 111, 99, 97, 108]⟩); refine (hTy _ hb0).mono ?_; rintro e wy ⟨rfl, hRy, hky⟩; have hkw := (Keeps.of_below (S := fun k => k = B) hb0).trans hky; have g2 := hky.box z0 (by omega); have hCX := hC.on hRy)
    | (go_at_call 137; refine (hX _ hCX).mono ?_; rintro e wz ⟨j, b, cap, hj, rfl, hN, hR, hkz⟩; have q2 := hkz.box g2 (by omega); obtain ⟨d0, d1, d2, d3, e0, e1, e2, e3⟩ := in4 q2))
    refine bodyPost_ret (res115 rfl (put4_same _ _ _ _ q2)) rfl ?_
    exact close_ret hj (hN.weak (fun q hq _ => by have := block_lt g2; rcases hq with hq | hq; exact hq.elim; exact ⟨.inr (by omega), by omega⟩)) hR (hkw.trans hkz) (Nat.le_refl _) hBw
set_option maxRecDepth 20000 in
set_option maxHeartbeats 1000000 in
theorem stat_1 (r : PRes) (B : Nat) (ts : List Tok) (i : Nat) (w : World) (hC : Ctx w B ts i) (hn0 : ¬ tx (rest ts i) = W.local_) (hy : tx (rest ts i) = W.if_) (hX : ∀ u, Ctx u B ts (i + 1) → Calls Tryz.prog 138 #[.pointer (some ⟨B, 0, none⟩)] u (PAns no u B ts r)) : Calls Tryz.prog 115 #[.pointer (some ⟨B, 0, none⟩)] w (PAns no w B ts r) := by
  have hBw := hC.R.lt
  have hb0 : Below w.heap.size w (w.alloc zbx) := ext_alloc (Below.refl _ _) _
  have z0 := alloc_new w zbx
  have hT0 := fun u hb => hC.takes_no pl_local hn0 u hb
  have hTy := fun u hb => hC.takes_yes pl_if hy u hb
  cases r with
  | inl l =>
    go_enter Tryz.func115, Tryz.ntmps115
    go_wp2_with (first
    | (go_at_call_of 96 (Value.string ⟨#[108, 111, 99, 97, 108]⟩); refine (hT0 _ hb0).mono ?_; rintro e w1 ⟨rfl, hbx1⟩; have hb1 := ext_trans hb0 hbx1; have z1 := block_below hbx1 z0)
    | (go_at_call_of 96 (Value.string ⟨#[105, 102]⟩); refine (hTy _ hb1).mono ?_; rintro e wy ⟨rfl, hRy, hky⟩; have hkw := (Keeps.of_below (S := fun k => k = B) hb1).trans hky; have g2 := hky.box z1 (by omega); have hCX := hC.on hRy)
    | (go_at_call 138; refine (hX _ hCX).mono ?_; rintro e wz ⟨j, hj, hle, rfl, hkz⟩))
    exact ⟨rfl, close_pan hj hle (hkw.trans hkz)⟩
  | inr p =>
    obtain ⟨n, l⟩ := p
    go_enter Tryz.func115, Tryz.ntmps115
    go_wp2_with (first
    | (go_at_call_of 96 (Value.string ⟨#[108, 111, 99, 97, 108]⟩); refine (hT0 _ hb0).mono ?_; rintro e w1 ⟨rfl, hbx1⟩; have hb1 := ext_trans hb0 hbx1; have z1 := block_below hbx1 z0)
    | (go_at_call_of 96 (Value.string ⟨#[105, 102]⟩); refine (hTy _ hb1).mono ?_; rintro e wy ⟨rfl, hRy, hky⟩; have hkw := (Keeps.of_below (S := fun k => k = B) hb1).trans hky; have g2 := hky.box z1 (by omega); have hCX := hC.on hRy)
    | (go_at_call 138; refine (hX _ hCX).mono ?_; rintro e wz ⟨j, b, cap, hj, rfl, hN, hR, hkz⟩; have q2 := hkz.box g2 (by omega); obtain ⟨d0, d1, d2, d3, e0, e1, e2, e3⟩ := in4 q2))
    refine bodyPost_ret (res115 rfl (put4_same _ _ _ _ q2)) rfl ?_
    exact close_ret hj (hN.weak (fun q hq _ => by have := block_lt g2; rcases hq with hq | hq; exact hq.elim; exact ⟨.inr (by omega), by omega⟩)) hR (hkw.trans hkz) (Nat.le_refl _) hBw
set_option maxRecDepth 20000 in
set_option maxHeartbeats 1000000 in
theorem stat_2 (r : PRes) (B : Nat) (ts : List Tok) (i : Nat) (w : World) (hC : Ctx w B ts i) (hn0 : ¬ tx (rest ts i) = W.local_) (hn1 : ¬ tx (rest ts i) = W.if_) (hy : tx (rest ts i) = W.while_) (hX : ∀ u, Ctx u B ts (i + 1) → Calls Tryz.prog 139 #[.pointer (some ⟨B, 0, none⟩)] u (PAns no u B ts r)) : Calls Tryz.prog 115 #[.pointer (some ⟨B, 0, none⟩)] w (PAns no w B ts r) := by
  have hBw := hC.R.lt
  have hb0 : Below w.heap.size w (w.alloc zbx) := ext_alloc (Below.refl _ _) _
  have z0 := alloc_new w zbx
  have hT0 := fun u hb => hC.takes_no pl_local hn0 u hb
  have hT1 := fun u hb => hC.takes_no pl_if hn1 u hb
  have hTy := fun u hb => hC.takes_yes pl_while hy u hb
  cases r with
  | inl l =>
    go_enter Tryz.func115, Tryz.ntmps115
    go_wp2_with (first
    | (go_at_call_of 96 (Value.string ⟨#[108, 111, 99, 97, 108]⟩); refine (hT0 _ hb0).mono ?_; rintro e w1 ⟨rfl, hbx1⟩; have hb1 := ext_trans hb0 hbx1; have z1 := block_below hbx1 z0)
    | (go_at_call_of 96 (Value.string ⟨#[105, 102]⟩); refine (hT1 _ hb1).mono ?_; rintro e w2 ⟨rfl, hbx2⟩; have hb2 := ext_trans hb1 hbx2; have z2 := block_below hbx2 z1)
    | (go_at_call_of 96 (Value.string ⟨#[119, 104, 105, 108, 101]⟩); refine (hTy _ hb2).mono ?_; rintro e wy ⟨rfl, hRy, hky⟩; have hkw := (Keeps.of_below (S := fun k => k = B) hb2).trans hky; have g2 := hky.box z2 (by omega); have hCX := hC.on hRy)
    | (go_at_call 139; refine (hX _ hCX).mono ?_; rintro e wz ⟨j, hj, hle, rfl, hkz⟩))
    exact ⟨rfl, close_pan hj hle (hkw.trans hkz)⟩
  | inr p =>
    obtain ⟨n, l⟩ := p
    go_enter Tryz.func115, Tryz.ntmps115
    go_wp2_with (first
    | (go_at_call_of 96 (Value.string ⟨#[108, 111, 99, 97, 108]⟩); refine (hT0 _ hb0).mono ?_; rintro e w1 ⟨rfl, hbx1⟩; have hb1 := ext_trans hb0 hbx1; have z1 := block_below hbx1 z0)
    | (go_at_call_of 96 (Value.string ⟨#[105, 102]⟩); refine (hT1 _ hb1).mono ?_; rintro e w2 ⟨rfl, hbx2⟩; have hb2 := ext_trans hb1 hbx2; have z2 := block_below hbx2 z1)
    | (go_at_call_of 96 (Value.string ⟨#[119, 104, 105, 108, 101]⟩); refine (hTy _ hb2).mono ?_; rintro e wy ⟨rfl, hRy, hky⟩; have hkw := (Keeps.of_below (S := fun k => k = B) hb2).trans hky; have g2 := hky.box z2 (by omega); have hCX := hC.on hRy)
    | (go_at_call 139; refine (hX _ hCX).mono ?_; rintro e wz ⟨j, b, cap, hj, rfl, hN, hR, hkz⟩; have q2 := hkz.box g2 (by omega); obtain ⟨d0, d1, d2, d3, e0, e1, e2, e3⟩ := in4 q2))
    refine bodyPost_ret (res115 rfl (put4_same _ _ _ _ q2)) rfl ?_
    exact close_ret hj (hN.weak (fun q hq _ => by have := block_lt g2; rcases hq with hq | hq; exact hq.elim; exact ⟨.inr (by omega), by omega⟩)) hR (hkw.trans hkz) (Nat.le_refl _) hBw
set_option maxRecDepth 20000 in
set_option maxHeartbeats 1000000 in
theorem stat_3 (r : PRes) (B : Nat) (ts : List Tok) (i : Nat) (w : World) (hC : Ctx w B ts i) (hn0 : ¬ tx (rest ts i) = W.local_) (hn1 : ¬ tx (rest ts i) = W.if_) (hn2 : ¬ tx (rest ts i) = W.while_) (hy : tx (rest ts i) = W.for_) (hX : ∀ u, Ctx u B ts (i + 1) → Calls Tryz.prog 140 #[.pointer (some ⟨B, 0, none⟩)] u (PAns no u B ts r)) : Calls Tryz.prog 115 #[.pointer (some ⟨B, 0, none⟩)] w (PAns no w B ts r) := by
  have hBw := hC.R.lt
  have hb0 : Below w.heap.size w (w.alloc zbx) := ext_alloc (Below.refl _ _) _
  have z0 := alloc_new w zbx
  have hT0 := fun u hb => hC.takes_no pl_local hn0 u hb
  have hT1 := fun u hb => hC.takes_no pl_if hn1 u hb
  have hT2 := fun u hb => hC.takes_no pl_while hn2 u hb
  have hTy := fun u hb => hC.takes_yes pl_for hy u hb
  cases r with
  | inl l =>
    go_enter Tryz.func115, Tryz.ntmps115
    go_wp2_with (first
    | (go_at_call_of 96 (Value.string ⟨#[108, 111, 99, 97, 108]⟩); refine (hT0 _ hb0).mono ?_; rintro e w1 ⟨rfl, hbx1⟩; have hb1 := ext_trans hb0 hbx1; have z1 := block_below hbx1 z0)
    | (go_at_call_of 96 (Value.string ⟨#[105, 102]⟩); refine (hT1 _ hb1).mono ?_; rintro e w2 ⟨rfl, hbx2⟩; have hb2 := ext_trans hb1 hbx2; have z2 := block_below hbx2 z1)
    | (go_at_call_of 96 (Value.string ⟨#[119, 104, 105, 108, 101]⟩); refine (hT2 _ hb2).mono ?_; rintro e w3 ⟨rfl, hbx3⟩; have hb3 := ext_trans hb2 hbx3; have z3 := block_below hbx3 z2)
    | (go_at_call_of 96 (Value.string ⟨#[102, 111, 114]⟩); refine (hTy _ hb3).mono ?_; rintro e wy ⟨rfl, hRy, hky⟩; have hkw := (Keeps.of_below (S := fun k => k = B) hb3).trans hky; have g2 := hky.box z3 (by omega); have hCX := hC.on hRy)
    | (go_at_call 140; refine (hX _ hCX).mono ?_; rintro e wz ⟨j, hj, hle, rfl, hkz⟩))
    exact ⟨rfl, close_pan hj hle (hkw.trans hkz)⟩
  | inr p =>
    obtain ⟨n, l⟩ := p
    go_enter Tryz.func115, Tryz.ntmps115
    go_wp2_with (first
    | (go_at_call_of 96 (Value.string ⟨#[108, 111, 99, 97, 108]⟩); refine (hT0 _ hb0).mono ?_; rintro e w1 ⟨rfl, hbx1⟩; have hb1 := ext_trans hb0 hbx1; have z1 := block_below hbx1 z0)
    | (go_at_call_of 96 (Value.string ⟨#[105, 102]⟩); refine (hT1 _ hb1).mono ?_; rintro e w2 ⟨rfl, hbx2⟩; have hb2 := ext_trans hb1 hbx2; have z2 := block_below hbx2 z1)
    | (go_at_call_of 96 (Value.string ⟨#[119, 104, 105, 108, 101]⟩); refine (hT2 _ hb2).mono ?_; rintro e w3 ⟨rfl, hbx3⟩; have hb3 := ext_trans hb2 hbx3; have z3 := block_below hbx3 z2)
    | (go_at_call_of 96 (Value.string ⟨#[102, 111, 114]⟩); refine (hTy _ hb3).mono ?_; rintro e wy ⟨rfl, hRy, hky⟩; have hkw := (Keeps.of_below (S := fun k => k = B) hb3).trans hky; have g2 := hky.box z3 (by omega); have hCX := hC.on hRy)
    | (go_at_call 140; refine (hX _ hCX).mono ?_; rintro e wz ⟨j, b, cap, hj, rfl, hN, hR, hkz⟩; have q2 := hkz.box g2 (by omega); obtain ⟨d0, d1, d2, d3, e0, e1, e2, e3⟩ := in4 q2))
    refine bodyPost_ret (res115 rfl (put4_same _ _ _ _ q2)) rfl ?_
    exact close_ret hj (hN.weak (fun q hq _ => by have := block_lt g2; rcases hq with hq | hq; exact hq.elim; exact ⟨.inr (by omega), by omega⟩)) hR (hkw.trans hkz) (Nat.le_refl _) hBw
set_option maxRecDepth 20000 in
set_option maxHeartbeats 1000000 in
theorem stat_4 (r : PRes) (B : Nat) (ts : List Tok) (i : Nat) (w : World) (hC : Ctx w B ts i) (hn0 : ¬ tx (rest ts i) = W.local_) (hn1 : ¬ tx (rest ts i) = W.if_) (hn2 : ¬ tx (rest ts i) = W.while_) (hn3 : ¬ tx (rest ts i) = W.for_) (hy : tx (rest ts i) = W.return_) (hX : ∀ u, Ctx u B ts (i + 1) → Calls Tryz.prog 141 #[.pointer (some ⟨B, 0, none⟩), .int .i64 11, .slice none 0 0] u (PAns no u B ts r)) : Calls Tryz.prog 115 #[.pointer (some ⟨B, 0, none⟩)] w (PAns no w B ts r) := by
  have hBw := hC.R.lt
  have hb0 : Below w.heap.size w (w.alloc zbx) := ext_alloc (Below.refl _ _) _
  have z0 := alloc_new w zbx
  have hT0 := fun u hb => hC.takes_no pl_local hn0 u hb
  have hT1 := fun u hb => hC.takes_no pl_if hn1 u hb
  have hT2 := fun u hb => hC.takes_no pl_while hn2 u hb
  have hT3 := fun u hb => hC.takes_no pl_for hn3 u hb
  have hTy := fun u hb => hC.takes_yes pl_return hy u hb
  cases r with
  | inl l =>
    go_enter Tryz.func115, Tryz.ntmps115
    go_wp2_with (first
    | (go_at_call_of 96 (Value.string ⟨#[108, 111, 99, 97, 108]⟩); refine (hT0 _ hb0).mono ?_; rintro e w1 ⟨rfl, hbx1⟩; have hb1 := ext_trans hb0 hbx1; have z1 := block_below hbx1 z0)
    | (go_at_call_of 96 (Value.string ⟨#[105, 102]⟩); refine (hT1 _ hb1).mono ?_; rintro e w2 ⟨rfl, hbx2⟩; have hb2 := ext_trans hb1 hbx2; have z2 := block_below hbx2 z1)
    | (go_at_call_of 96 (Value.string ⟨#[119, 104, 105, 108, 101]⟩); refine (hT2 _ hb2).mono ?_; rintro e w3 ⟨rfl, hbx3⟩; have hb3 := ext_trans hb2 hbx3; have z3 := block_below hbx3 z2)
    | (go_at_call_of 96 (Value.string ⟨#[102, 111, 114]⟩); refine (hT3 _ hb3).mono ?_; rintro e w4 ⟨rfl, hbx4⟩; have hb4 := ext_trans hb3 hbx4; have z4 := block_below hbx4 z3)
    | (go_at_call_of 96 (Value.string ⟨#[114, 101, 116, 117, 114, 110]⟩); refine (hTy _ hb4).mono ?_; rintro e wy ⟨rfl, hRy, hky⟩; have hkw := (Keeps.of_below (S := fun k => k = B) hb4).trans hky; have g2 := hky.box z4 (by omega); have hCX := hC.on hRy)
    | (go_at_call 141; refine (hX _ hCX).mono ?_; rintro e wz ⟨j, hj, hle, rfl, hkz⟩))
    exact ⟨rfl, close_pan hj hle (hkw.trans hkz)⟩
  | inr p =>
    obtain ⟨n, l⟩ := p
    go_enter Tryz.func115, Tryz.ntmps115
    go_wp2_with (first
    | (go_at_call_of 96 (Value.string ⟨#[108, 111, 99, 97, 108]⟩); refine (hT0 _ hb0).mono ?_; rintro e w1 ⟨rfl, hbx1⟩; have hb1 := ext_trans hb0 hbx1; have z1 := block_below hbx1 z0)
    | (go_at_call_of 96 (Value.string ⟨#[105, 102]⟩); refine (hT1 _ hb1).mono ?_; rintro e w2 ⟨rfl, hbx2⟩; have hb2 := ext_trans hb1 hbx2; have z2 := block_below hbx2 z1)
    | (go_at_call_of 96 (Value.string ⟨#[119, 104, 105, 108, 101]⟩); refine (hT2 _ hb2).mono ?_; rintro e w3 ⟨rfl, hbx3⟩; have hb3 := ext_trans hb2 hbx3; have z3 := block_below hbx3 z2)
    | (go_at_call_of 96 (Value.string ⟨#[102, 111, 114]⟩); refine (hT3 _ hb3).mono ?_; rintro e w4 ⟨rfl, hbx4⟩; have hb4 := ext_trans hb3 hbx4; have z4 := block_below hbx4 z3)
    | (go_at_call_of 96 (Value.string ⟨#[114, 101, 116, 117, 114, 110]⟩); refine (hTy _ hb4).mono ?_; rintro e wy ⟨rfl, hRy, hky⟩; have hkw := (Keeps.of_below (S := fun k => k = B) hb4).trans hky; have g2 := hky.box z4 (by omega); have hCX := hC.on hRy)
    | (go_at_call 141; refine (hX _ hCX).mono ?_; rintro e wz ⟨j, b, cap, hj, rfl, hN, hR, hkz⟩; have q2 := hkz.box g2 (by omega); obtain ⟨d0, d1, d2, d3, e0, e1, e2, e3⟩ := in4 q2))
    refine bodyPost_ret (res115 rfl (put4_same _ _ _ _ q2)) rfl ?_
    exact close_ret hj (hN.weak (fun q hq _ => by have := block_lt g2; rcases hq with hq | hq; exact hq.elim; exact ⟨.inr (by omega), by omega⟩)) hR (hkw.trans hkz) (Nat.le_refl _) hBw
set_option maxRecDepth 20000 in
set_option maxHeartbeats 1000000 in
theorem stat_5 (r : PRes) (B : Nat) (ts : List Tok) (i : Nat) (w : World) (hC : Ctx w B ts i) (hn0 : ¬ tx (rest ts i) = W.local_) (hn1 : ¬ tx (rest ts i) = W.if_) (hn2 : ¬ tx (rest ts i) = W.while_) (hn3 : ¬ tx (rest ts i) = W.for_) (hn4 : ¬ tx (rest ts i) = W.return_) (hy : tx (rest ts i) = W.emit_) (hX : ∀ u, Ctx u B ts (i + 1) → Calls Tryz.prog 141 #[.pointer (some ⟨B, 0, none⟩), .int .i64 12, .slice none 0 0] u (PAns no u B ts r)) : Calls Tryz.prog 115 #[.pointer (some ⟨B, 0, none⟩)] w (PAns no w B ts r) := by
  have hBw := hC.R.lt
  have hb0 : Below w.heap.size w (w.alloc zbx) := ext_alloc (Below.refl _ _) _
  have z0 := alloc_new w zbx
  have hT0 := fun u hb => hC.takes_no pl_local hn0 u hb
  have hT1 := fun u hb => hC.takes_no pl_if hn1 u hb
  have hT2 := fun u hb => hC.takes_no pl_while hn2 u hb
  have hT3 := fun u hb => hC.takes_no pl_for hn3 u hb
  have hT4 := fun u hb => hC.takes_no pl_return hn4 u hb
  have hTy := fun u hb => hC.takes_yes pl_emit hy u hb
  cases r with
  | inl l =>
    go_enter Tryz.func115, Tryz.ntmps115
    go_wp2_with (first
    | (go_at_call_of 96 (Value.string ⟨#[108, 111, 99, 97, 108]⟩); refine (hT0 _ hb0).mono ?_; rintro e w1 ⟨rfl, hbx1⟩; have hb1 := ext_trans hb0 hbx1; have z1 := block_below hbx1 z0)
    | (go_at_call_of 96 (Value.string ⟨#[105, 102]⟩); refine (hT1 _ hb1).mono ?_; rintro e w2 ⟨rfl, hbx2⟩; have hb2 := ext_trans hb1 hbx2; have z2 := block_below hbx2 z1)
    | (go_at_call_of 96 (Value.string ⟨#[119, 104, 105, 108, 101]⟩); refine (hT2 _ hb2).mono ?_; rintro e w3 ⟨rfl, hbx3⟩; have hb3 := ext_trans hb2 hbx3; have z3 := block_below hbx3 z2)
    | (go_at_call_of 96 (Value.string ⟨#[102, 111, 114]⟩); refine (hT3 _ hb3).mono ?_; rintro e w4 ⟨rfl, hbx4⟩; have hb4 := ext_trans hb3 hbx4; have z4 := block_below hbx4 z3)
    | (go_at_call_of 96 (Value.string ⟨#[114, 101, 116, 117, 114, 110]⟩); refine (hT4 _ hb4).mono ?_; rintro e w5 ⟨rfl, hbx5⟩; have hb5 := ext_trans hb4 hbx5; have z5 := block_below hbx5 z4)
    | (go_at_call_of 96 (Value.string ⟨#[101, 109, 105, 116]⟩); refine (hTy _ hb5).mono ?_; rintro e wy ⟨rfl, hRy, hky⟩; have hkw := (Keeps.of_below (S := fun k => k = B) hb5).trans hky; have g2 := hky.box z5 (by omega); have hCX := hC.on hRy)
    | (go_at_call 141; refine (hX _ hCX).mono ?_; rintro e wz ⟨j, hj, hle, rfl, hkz⟩))
    exact ⟨rfl, close_pan hj hle (hkw.trans hkz)⟩
  | inr p =>
    obtain ⟨n, l⟩ := p
    go_enter Tryz.func115, Tryz.ntmps115
    go_wp2_with (first
    | (go_at_call_of 96 (Value.string ⟨#[108, 111, 99, 97, 108]⟩); refine (hT0 _ hb0).mono ?_; rintro e w1 ⟨rfl, hbx1⟩; have hb1 := ext_trans hb0 hbx1; have z1 := block_below hbx1 z0)
    | (go_at_call_of 96 (Value.string ⟨#[105, 102]⟩); refine (hT1 _ hb1).mono ?_; rintro e w2 ⟨rfl, hbx2⟩; have hb2 := ext_trans hb1 hbx2; have z2 := block_below hbx2 z1)
    | (go_at_call_of 96 (Value.string ⟨#[119, 104, 105, 108, 101]⟩); refine (hT2 _ hb2).mono ?_; rintro e w3 ⟨rfl, hbx3⟩; have hb3 := ext_trans hb2 hbx3; have z3 := block_below hbx3 z2)
    | (go_at_call_of 96 (Value.string ⟨#[102, 111, 114]⟩); refine (hT3 _ hb3).mono ?_; rintro e w4 ⟨rfl, hbx4⟩; have hb4 := ext_trans hb3 hbx4; have z4 := block_below hbx4 z3)
    | (go_at_call_of 96 (Value.string ⟨#[114, 101, 116, 117, 114, 110]⟩); refine (hT4 _ hb4).mono ?_; rintro e w5 ⟨rfl, hbx5⟩; have hb5 := ext_trans hb4 hbx5; have z5 := block_below hbx5 z4)
    | (go_at_call_of 96 (Value.string ⟨#[101, 109, 105, 116]⟩); refine (hTy _ hb5).mono ?_; rintro e wy ⟨rfl, hRy, hky⟩; have hkw := (Keeps.of_below (S := fun k => k = B) hb5).trans hky; have g2 := hky.box z5 (by omega); have hCX := hC.on hRy)
    | (go_at_call 141; refine (hX _ hCX).mono ?_; rintro e wz ⟨j, b, cap, hj, rfl, hN, hR, hkz⟩; have q2 := hkz.box g2 (by omega); obtain ⟨d0, d1, d2, d3, e0, e1, e2, e3⟩ := in4 q2))
    refine bodyPost_ret (res115 rfl (put4_same _ _ _ _ q2)) rfl ?_
    exact close_ret hj (hN.weak (fun q hq _ => by have := block_lt g2; rcases hq with hq | hq; exact hq.elim; exact ⟨.inr (by omega), by omega⟩)) hR (hkw.trans hkz) (Nat.le_refl _) hBw
set_option maxRecDepth 20000 in
set_option maxHeartbeats 1000000 in
theorem stat_6 (r : PRes) (B : Nat) (ts : List Tok) (i : Nat) (w : World) (hC : Ctx w B ts i) (hn0 : ¬ tx (rest ts i) = W.local_) (hn1 : ¬ tx (rest ts i) = W.if_) (hn2 : ¬ tx (rest ts i) = W.while_) (hn3 : ¬ tx (rest ts i) = W.for_) (hn4 : ¬ tx (rest ts i) = W.return_) (hn5 : ¬ tx (rest ts i) = W.emit_) (hX : ∀ u, Ctx u B ts i → Calls Tryz.prog 142 #[.pointer (some ⟨B, 0, none⟩)] u (PAns no u B ts r)) : Calls Tryz.prog 115 #[.pointer (some ⟨B, 0, none⟩)] w (PAns no w B ts r) := by
  have hBw := hC.R.lt
  have hb0 : Below w.heap.size w (w.alloc zbx) := ext_alloc (Below.refl _ _) _
  have z0 := alloc_new w zbx
  have hT0 := fun u hb => hC.takes_no pl_local hn0 u hb
  have hT1 := fun u hb => hC.takes_no pl_if hn1 u hb
  have hT2 := fun u hb => hC.takes_no pl_while hn2 u hb
  have hT3 := fun u hb => hC.takes_no pl_for hn3 u hb
  have hT4 := fun u hb => hC.takes_no pl_return hn4 u hb
  have hT5 := fun u hb => hC.takes_no pl_emit hn5 u hb
  cases r with
  | inl l =>
    go_enter Tryz.func115, Tryz.ntmps115
    go_wp2_with (first
    | (go_at_call_of 96 (Value.string ⟨#[108, 111, 99, 97, 108]⟩); refine (hT0 _ hb0).mono ?_; rintro e w1 ⟨rfl, hbx1⟩; have hb1 := ext_trans hb0 hbx1; have z1 := block_below hbx1 z0)
    | (go_at_call_of 96 (Value.string ⟨#[105, 102]⟩); refine (hT1 _ hb1).mono ?_; rintro e w2 ⟨rfl, hbx2⟩; have hb2 := ext_trans hb1 hbx2; have z2 := block_below hbx2 z1)
    | (go_at_call_of 96 (Value.string ⟨#[119, 104, 105, 108, 101]⟩); refine (hT2 _ hb2).mono ?_; rintro e w3 ⟨rfl, hbx3⟩; have hb3 := ext_trans hb2 hbx3; have z3 := block_below hbx3 z2)
    | (go_at_call_of 96 (Value.string ⟨#[102, 111, 114]⟩); refine (hT3 _ hb3).mono ?_; rintro e w4 ⟨rfl, hbx4⟩; have hb4 := ext_trans hb3 hbx4; have z4 := block_below hbx4 z3)
    | (go_at_call_of 96 (Value.string ⟨#[114, 101, 116, 117, 114, 110]⟩); refine (hT4 _ hb4).mono ?_; rintro e w5 ⟨rfl, hbx5⟩; have hb5 := ext_trans hb4 hbx5; have z5 := block_below hbx5 z4)
    | (go_at_call_of 96 (Value.string ⟨#[101, 109, 105, 116]⟩); refine (hT5 _ hb5).mono ?_; rintro e w6 ⟨rfl, hbx6⟩; have hb6 := ext_trans hb5 hbx6; have z6 := block_below hbx6 z5)
    | (go_at_call 142; refine (hX _ (hC.below hb6)).mono ?_; rintro e wz ⟨j, hj, hle, rfl, hkz⟩))
    exact ⟨rfl, close_pan hj hle ((Keeps.of_below hb6).trans hkz)⟩
  | inr p =>
    obtain ⟨n, l⟩ := p
    go_enter Tryz.func115, Tryz.ntmps115
    go_wp2_with (first
    | (go_at_call_of 96 (Value.string ⟨#[108, 111, 99, 97, 108]⟩); refine (hT0 _ hb0).mono ?_; rintro e w1 ⟨rfl, hbx1⟩; have hb1 := ext_trans hb0 hbx1; have z1 := block_below hbx1 z0)
    | (go_at_call_of 96 (Value.string ⟨#[105, 102]⟩); refine (hT1 _ hb1).mono ?_; rintro e w2 ⟨rfl, hbx2⟩; have hb2 := ext_trans hb1 hbx2; have z2 := block_below hbx2 z1)
    | (go_at_call_of 96 (Value.string ⟨#[119, 104, 105, 108, 101]⟩); refine (hT2 _ hb2).mono ?_; rintro e w3 ⟨rfl, hbx3⟩; have hb3 := ext_trans hb2 hbx3; have z3 := block_below hbx3 z2)
    | (go_at_call_of 96 (Value.string ⟨#[102, 111, 114]⟩); refine (hT3 _ hb3).mono ?_; rintro e w4 ⟨rfl, hbx4⟩; have hb4 := ext_trans hb3 hbx4; have z4 := block_below hbx4 z3)
    | (go_at_call_of 96 (Value.string ⟨#[114, 101, 116, 117, 114, 110]⟩); refine (hT4 _ hb4).mono ?_; rintro e w5 ⟨rfl, hbx5⟩; have hb5 := ext_trans hb4 hbx5; have z5 := block_below hbx5 z4)
    | (go_at_call_of 96 (Value.string ⟨#[101, 109, 105, 116]⟩); refine (hT5 _ hb5).mono ?_; rintro e w6 ⟨rfl, hbx6⟩; have hb6 := ext_trans hb5 hbx6; have z6 := block_below hbx6 z5)
    | (go_at_call 142; refine (hX _ (hC.below hb6)).mono ?_; rintro e wz ⟨j, b, cap, hj, rfl, hN, hR, hkz⟩; have q2 := hkz.box z6 (by omega); obtain ⟨d0, d1, d2, d3, e0, e1, e2, e3⟩ := in4 q2))
    refine bodyPost_ret (res115 rfl (put4_same _ _ _ _ q2)) rfl ?_
    exact close_ret hj (hN.weak (fun q hq _ => by have := block_lt z6; rcases hq with hq | hq; exact hq.elim; exact ⟨.inr (by omega), by omega⟩)) hR ((Keeps.of_below hb6).trans hkz) (Nat.le_refl _) hBw
theorem stat_of (f : Nat) (hE : ∀ g, g ≤ f → ExprC g) (hF : ∀ g, g ≤ f → SufC g) (hB : BlkC f) : StatC (f + 1) := by
  intro r B ts i w hC hP
  have hEf := hE f (Nat.le_refl _)
  rw [P] at hP
  split at hP
  · rename_i h0
    rw [rest_tail] at hP
    exact stat_0 r B ts i w hC h0 (fun u h => local_of f hEf r B ts (i + 1) u h hP)
  rename_i h0
  split at hP
  · rename_i h1
    rw [rest_tail] at hP
    exact stat_1 r B ts i w hC h0 h1 (fun u h => choice_of f hEf hB r B ts (i + 1) u h hP)
  rename_i h1
  split at hP
  · rename_i h2
    rw [rest_tail] at hP
    exact stat_2 r B ts i w hC h0 h1 h2 (fun u h => loop_of f hEf hB r B ts (i + 1) u h hP)
  rename_i h2
  split at hP
  · rename_i h3
    rw [rest_tail] at hP
    exact stat_3 r B ts i w hC h0 h1 h2 h3 (fun u h => count_of f hEf hB r B ts (i + 1) u h hP)
  rename_i h3
  split at hP
  · rename_i h4
    rw [rest_tail] at hP
    exact stat_4 r B ts i w hC h0 h1 h2 h3 h4 (fun u h => given_nil f hEf 11 r B ts (i + 1) u h hP)
  rename_i h4
  split at hP
  · rename_i h5
    rw [rest_tail] at hP
    exact stat_5 r B ts i w hC h0 h1 h2 h3 h4 h5 (fun u h => given_nil f hEf 12 r B ts (i + 1) u h hP)
  rename_i h5
  exact stat_6 r B ts i w hC h0 h1 h2 h3 h4 h5 (fun u h => soc_of f hE hF r B ts i u h hP)
end Go.Proofs.YtbofdfdmikhanaaGreatDoor
