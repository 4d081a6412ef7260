/- The document's reader: a statement. -/
import Derived.Test.YtnnppenlfocgiaaGreatDoorK33
namespace Go.Proofs.YtnnppenlfocgiaaGreatDoor
open Go.RowKit
open Go

theorem res71 {tm : Array Value} {W : World} {B : Nat} {a b c d : Value} (h : tm[2]?.getD undef = .pointer (some ⟨B, 0, none⟩)) (hx : W.heap[B]? = some (.cells #[a, b, c, d] 24)) : (results Tryz.f53 tm).run Tryz.prog W = .ok (.agg #[a, b, c, d]) W := by
  obtain ⟨c0, c1, c2, c3, _, _, _, _⟩ := in4 hx
  simp [results, Tryz.results53, go_sem, h, c0, c1, c2, c3]
set_option maxRecDepth 20000 in
set_option maxHeartbeats 2000000 in
theorem st_local (f : Nat) (hE : DRow f) (r : PRes) (Fin : Nat → Prop) (g : Nd → List PT → PR) (B : Nat) (ts : List Tok) (i : Nat) (w : World) (hF : FinOK ts Fin r) (hR : Dr w B ts i false) (hy : tx (rest ts i) = W.local_) (hP : (needName (rest ts (i + 1)) (fun s l => need S.eq l fun l => (P f 0 nil0 0 l).on fun x l => need S.sc l fun l => g ⟨5, s, 0, [] ++ [x]⟩ l)) = some r) : Calls Tryz.prog 53 #[.pointer (some ⟨B, 0, none⟩)] w (NA no w B ts Fin r g) := by
  have hS := NS.new nil0 rfl hR
  have hBw := hR.lt
  obtain ⟨U, hU⟩ : ∃ U, (w.alloc zbx).alloc (nbx nil0 none 0) = U := ⟨_, rfl⟩
  rw [hU] at hS
  replace hU : (w.alloc (.cells #[.int .i64 0, .string ⟨#[]⟩, .int .i64 0, .slice none 0 0] 24)).alloc (.cells #[.int .i64 0, .string ⟨#[]⟩, .int .i64 0, .slice none 0 0] 24) = U := hU
  obtain ⟨c0, c1, c2, c3, f0, f1, f2, f3⟩ := in4 hS.g
  replace hS := hS.put 0 0 []
  obtain ⟨V, hV⟩ : ∃ V, put4 U (w.heap.size + 1) (.int .i64 0) (sk []) (.int .i64 0) (.slice none 0 0) = V := ⟨_, rfl⟩
  rw [hV] at hS
  replace hV : (((U.setCell ⟨w.heap.size + 1, 0, none⟩ (.int .i64 0)).setCell ⟨w.heap.size + 1, 1, none⟩ (.string ⟨#[]⟩)).setCell ⟨w.heap.size + 1, 2, none⟩ (.int .i64 0)).setCell ⟨w.heap.size + 1, 3, none⟩ (.slice none 0 0) = V := hV
  have hTy := fun u h => eat_yes B ts i false W.local_ hy (tx_lt hy (by decide)) u h
  go_enter Tryz.func53, Tryz.ntmps53
  go_wp2_with (go_at_call 31; refine Hid.out ?_)
  try rw [hV]
  obtain ⟨t, ht⟩ : ∃ m, w.heap.size + 1 = m := ⟨_, rfl⟩
  rw [ht] at hS ⊢
  clear hU hV ht c0 c1 c2 c3 f0 f1 f2 f3
  refine Lib.hid ?_
  refine (hTy _ hS.R).mono ?_
  rintro e w1 ⟨rfl, hRy, hky⟩
  replace hS := hS.on hky hRy
  obtain ⟨c0, c1, c2, c3, f0, f1, f2, f3⟩ := in4 hS.g
  go_wp2_with (first | (go_at_call 29; refine (hS.name hF (.inr ⟨rfl, hP⟩)).mono ?_; rintro e w2 ⟨s, j0, bad0, rfl, hS0, hFl⟩; refine Hid.out ?_))
  clear hP
  replace hS := hS0.put 5 0 s
  obtain ⟨c0, c1, c2, c3, f0, f1, f2, f3⟩ := in4 hS0.g
  obtain ⟨wp, hwp⟩ : ∃ W, put4 w2 t (.int .i64 5) (sk s) (.int .i64 0) (.slice none 0 0) = W := ⟨_, rfl⟩
  rw [hwp] at hS
  replace hwp : (((w2.setCell ⟨t, 0, none⟩ (.int .i64 5)).setCell ⟨t, 1, none⟩ (.string ⟨s.toArray⟩)).setCell ⟨t, 2, none⟩ (.int .i64 0)).setCell ⟨t, 3, none⟩ (.slice none 0 0) = wp := hwp
  refine Lib.hid ?_
  go_wp2_with (first | (go_at_call 28; refine Hid.out ?_))
  try rw [hwp]
  refine Lib.hid ?_
  clear hwp
  refine (hS.must (s := S.eq) (by decide) hF hFl).mono ?_
  rintro e w3 ⟨rfl, j0, bad0, hS, hFl⟩
  obtain ⟨c0, c1, c2, c3, f0, f1, f2, f3⟩ := in4 hS.g
  go_wp2_with (first | (go_at_call 71; refine (hS.exprs hE hF (by simp) (fun ks l => need S.sc l fun l => g ⟨5, s, 0, ks⟩ l) hFl).mono ?_; rintro e wa ⟨ks1, b1, cap1, j1, bad1, rfl, hl1, ga, hS1, hFl1⟩; refine Hid.out ?_))
  obtain ⟨wb, hwb⟩ : ∃ W, wa.setCell ⟨t, 3, none⟩ (.slice b1 ks1.length cap1) = W := ⟨_, rfl⟩
  rw [hwb] at hS1
  obtain ⟨c0, c1, c2, c3, f0, f1, f2, f3⟩ := in4 ga
  refine Lib.hid ?_
  go_wp2_with (first | (go_at_call 28; refine (hS1.must (s := S.sc) (by decide) hF hFl1).mono ?_; rintro e w9 ⟨rfl, j2, bad2, hS2, hFl2⟩; obtain ⟨c0, c1, c2, c3, f0, f1, f2, f3⟩ := in4 hS2.g; obtain ⟨d0, d1, d2, d3, e0, e1, e2, e3⟩ := in4 hS2.z))
  refine bodyPost_ret (res71 rfl (put4_same _ _ _ _ hS2.z)) rfl ?_
  exact hS2.close hFl2
set_option maxRecDepth 20000 in
set_option maxHeartbeats 2000000 in
theorem st_return (f : Nat) (hE : DRow f) (r : PRes) (Fin : Nat → Prop) (g : Nd → List PT → PR) (B : Nat) (ts : List Tok) (i : Nat) (w : World) (hF : FinOK ts Fin r) (hR : Dr w B ts i false) (hn0 : ¬ tx (rest ts i) = W.local_) (hn1 : ¬ tx (rest ts i) = W.if_) (hn2 : ¬ tx (rest ts i) = W.while_) (hn3 : ¬ tx (rest ts i) = W.for_) (hy : tx (rest ts i) = W.return_) (hP : ((P f 0 nil0 0 (rest ts (i + 1))).on fun x l => need S.sc l fun l => g (nd 11 ([] ++ [x])) l) = some r) : Calls Tryz.prog 53 #[.pointer (some ⟨B, 0, none⟩)] w (NA no w B ts Fin r g) := by
  have hS := NS.new nil0 rfl hR
  have hBw := hR.lt
  obtain ⟨U, hU⟩ : ∃ U, (w.alloc zbx).alloc (nbx nil0 none 0) = U := ⟨_, rfl⟩
  rw [hU] at hS
  replace hU : (w.alloc (.cells #[.int .i64 0, .string ⟨#[]⟩, .int .i64 0, .slice none 0 0] 24)).alloc (.cells #[.int .i64 0, .string ⟨#[]⟩, .int .i64 0, .slice none 0 0] 24) = U := hU
  obtain ⟨c0, c1, c2, c3, f0, f1, f2, f3⟩ := in4 hS.g
  replace hS := hS.put 0 0 []
  obtain ⟨V, hV⟩ : ∃ V, put4 U (w.heap.size + 1) (.int .i64 0) (sk []) (.int .i64 0) (.slice none 0 0) = V := ⟨_, rfl⟩
  rw [hV] at hS
  replace hV : (((U.setCell ⟨w.heap.size + 1, 0, none⟩ (.int .i64 0)).setCell ⟨w.heap.size + 1, 1, none⟩ (.string ⟨#[]⟩)).setCell ⟨w.heap.size + 1, 2, none⟩ (.int .i64 0)).setCell ⟨w.heap.size + 1, 3, none⟩ (.slice none 0 0) = V := hV
  have hT0 := fun u h => eat_no B ts i false W.local_ hn0 u h
  have hT1 := fun u h => eat_no B ts i false W.if_ hn1 u h
  have hT2 := fun u h => eat_no B ts i false W.while_ hn2 u h
  have hT3 := fun u h => eat_no B ts i false W.for_ hn3 u h
  have hTy := fun u h => eat_yes B ts i false W.return_ hy (tx_lt hy (by decide)) u h
  go_enter Tryz.func53, Tryz.ntmps53
  go_wp2_with (go_at_call 31; refine Hid.out ?_)
  try rw [hV]
  obtain ⟨t, ht⟩ : ∃ m, w.heap.size + 1 = m := ⟨_, rfl⟩
  rw [ht] at hS ⊢
  clear hU hV ht c0 c1 c2 c3 f0 f1 f2 f3
  refine Lib.hid ?_
  refine (hT0 _ hS.R).mono ?_
  rintro e w1 ⟨rfl, hb⟩
  replace hS := hS.below hb
  clear hb
  go_wp2_with (first | (go_at_call_of 31 (Value.string ⟨#[105, 102]⟩); refine (hT1 _ hS.R).mono ?_; rintro e w1 ⟨rfl, hb⟩; replace hS := hS.below hb) | (go_at_call_of 31 (Value.string ⟨#[119, 104, 105, 108, 101]⟩); refine (hT2 _ hS.R).mono ?_; rintro e w1 ⟨rfl, hb⟩; replace hS := hS.below hb) | (go_at_call_of 31 (Value.string ⟨#[102, 111, 114]⟩); refine (hT3 _ hS.R).mono ?_; rintro e w1 ⟨rfl, hb⟩; replace hS := hS.below hb) | (go_at_call_of 31 (Value.string ⟨#[114, 101, 116, 117, 114, 110]⟩); refine (hTy _ hS.R).mono ?_; rintro e w1 ⟨rfl, hRy, hky⟩; replace hS := hS.on hky hRy; obtain ⟨c0, c1, c2, c3, f0, f1, f2, f3⟩ := in4 hS.g) | (go_at_call 71; refine Hid.out ?_))
  replace hS := hS.kind 11
  obtain ⟨wk, hwk⟩ : ∃ W, w1.setCell ⟨t, 0, none⟩ (.int .i64 11) = W := ⟨_, rfl⟩
  rw [hwk] at hS ⊢
  clear hwk
  refine Lib.hid ?_
  have hFl : Fl ts Fin r (i + 1) false (fun l => (P f 0 nil0 0 l).on (fun x l => (fun ks l => need S.sc l fun l => g (nd 11 ks) l) ([] ++ [x]) l)) := .inr ⟨rfl, hP⟩
  clear hP
  refine (hS.exprs hE hF (by simp) (fun ks l => need S.sc l fun l => g (nd 11 ks) l) hFl).mono ?_
  rintro e wa ⟨ks1, b1, cap1, j1, bad1, rfl, hl1, ga, hS1, hFl1⟩
  obtain ⟨wb, hwb⟩ : ∃ W, wa.setCell ⟨t, 3, none⟩ (.slice b1 ks1.length cap1) = W := ⟨_, rfl⟩
  rw [hwb] at hS1
  obtain ⟨c0, c1, c2, c3, f0, f1, f2, f3⟩ := in4 ga
  go_wp2_with (first | (go_at_call 28; refine (hS1.must (s := S.sc) (by decide) hF hFl1).mono ?_; rintro e w9 ⟨rfl, j2, bad2, hS2, hFl2⟩; obtain ⟨c0, c1, c2, c3, f0, f1, f2, f3⟩ := in4 hS2.g; obtain ⟨d0, d1, d2, d3, e0, e1, e2, e3⟩ := in4 hS2.z))
  refine bodyPost_ret (res71 rfl (put4_same _ _ _ _ hS2.z)) rfl ?_
  exact hS2.close hFl2
set_option maxRecDepth 20000 in
set_option maxHeartbeats 2000000 in
theorem st_emit (f : Nat) (hE : DRow f) (r : PRes) (Fin : Nat → Prop) (g : Nd → List PT → PR) (B : Nat) (ts : List Tok) (i : Nat) (w : World) (hF : FinOK ts Fin r) (hR : Dr w B ts i false) (hn0 : ¬ tx (rest ts i) = W.local_) (hn1 : ¬ tx (rest ts i) = W.if_) (hn2 : ¬ tx (rest ts i) = W.while_) (hn3 : ¬ tx (rest ts i) = W.for_) (hn4 : ¬ tx (rest ts i) = W.return_) (hy : tx (rest ts i) = W.emit_) (hP : ((P f 0 nil0 0 (rest ts (i + 1))).on fun x l => need S.sc l fun l => g (nd 12 ([] ++ [x])) l) = some r) : Calls Tryz.prog 53 #[.pointer (some ⟨B, 0, none⟩)] w (NA no w B ts Fin r g) := by
  have hS := NS.new nil0 rfl hR
  have hBw := hR.lt
  obtain ⟨U, hU⟩ : ∃ U, (w.alloc zbx).alloc (nbx nil0 none 0) = U := ⟨_, rfl⟩
  rw [hU] at hS
  replace hU : (w.alloc (.cells #[.int .i64 0, .string ⟨#[]⟩, .int .i64 0, .slice none 0 0] 24)).alloc (.cells #[.int .i64 0, .string ⟨#[]⟩, .int .i64 0, .slice none 0 0] 24) = U := hU
  obtain ⟨c0, c1, c2, c3, f0, f1, f2, f3⟩ := in4 hS.g
  replace hS := hS.put 0 0 []
  obtain ⟨V, hV⟩ : ∃ V, put4 U (w.heap.size + 1) (.int .i64 0) (sk []) (.int .i64 0) (.slice none 0 0) = V := ⟨_, rfl⟩
  rw [hV] at hS
  replace hV : (((U.setCell ⟨w.heap.size + 1, 0, none⟩ (.int .i64 0)).setCell ⟨w.heap.size + 1, 1, none⟩ (.string ⟨#[]⟩)).setCell ⟨w.heap.size + 1, 2, none⟩ (.int .i64 0)).setCell ⟨w.heap.size + 1, 3, none⟩ (.slice none 0 0) = V := hV
  have hT0 := fun u h => eat_no B ts i false W.local_ hn0 u h
  have hT1 := fun u h => eat_no B ts i false W.if_ hn1 u h
  have hT2 := fun u h => eat_no B ts i false W.while_ hn2 u h
  have hT3 := fun u h => eat_no B ts i false W.for_ hn3 u h
  have hT4 := fun u h => eat_no B ts i false W.return_ hn4 u h
  have hTy := fun u h => eat_yes B ts i false W.emit_ hy (tx_lt hy (by decide)) u h
  go_enter Tryz.func53, Tryz.ntmps53
  go_wp2_with (go_at_call 31; refine Hid.out ?_)
  try rw [hV]
  obtain ⟨t, ht⟩ : ∃ m, w.heap.size + 1 = m := ⟨_, rfl⟩
  rw [ht] at hS ⊢
  clear hU hV ht c0 c1 c2 c3 f0 f1 f2 f3
  refine Lib.hid ?_
  refine (hT0 _ hS.R).mono ?_
  rintro e w1 ⟨rfl, hb⟩
  replace hS := hS.below hb
  clear hb
  go_wp2_with (first | (go_at_call_of 31 (Value.string ⟨#[105, 102]⟩); refine (hT1 _ hS.R).mono ?_; rintro e w1 ⟨rfl, hb⟩; replace hS := hS.below hb) | (go_at_call_of 31 (Value.string ⟨#[119, 104, 105, 108, 101]⟩); refine (hT2 _ hS.R).mono ?_; rintro e w1 ⟨rfl, hb⟩; replace hS := hS.below hb) | (go_at_call_of 31 (Value.string ⟨#[102, 111, 114]⟩); refine (hT3 _ hS.R).mono ?_; rintro e w1 ⟨rfl, hb⟩; replace hS := hS.below hb) | (go_at_call_of 31 (Value.string ⟨#[114, 101, 116, 117, 114, 110]⟩); refine (hT4 _ hS.R).mono ?_; rintro e w1 ⟨rfl, hb⟩; replace hS := hS.below hb) | (go_at_call_of 31 (Value.string ⟨#[101, 109, 105, 116]⟩); refine (hTy _ hS.R).mono ?_; rintro e w1 ⟨rfl, hRy, hky⟩; replace hS := hS.on hky hRy; obtain ⟨c0, c1, c2, c3, f0, f1, f2, f3⟩ := in4 hS.g) | (go_at_call 71; refine Hid.out ?_))
  replace hS := hS.kind 12
  obtain ⟨wk, hwk⟩ : ∃ W, w1.setCell ⟨t, 0, none⟩ (.int .i64 12) = W := ⟨_, rfl⟩
  rw [hwk] at hS ⊢
  clear hwk
  refine Lib.hid ?_
  have hFl : Fl ts Fin r (i + 1) false (fun l => (P f 0 nil0 0 l).on (fun x l => (fun ks l => need S.sc l fun l => g (nd 12 ks) l) ([] ++ [x]) l)) := .inr ⟨rfl, hP⟩
  clear hP
  refine (hS.exprs hE hF (by simp) (fun ks l => need S.sc l fun l => g (nd 12 ks) l) hFl).mono ?_
  rintro e wa ⟨ks1, b1, cap1, j1, bad1, rfl, hl1, ga, hS1, hFl1⟩
  obtain ⟨wb, hwb⟩ : ∃ W, wa.setCell ⟨t, 3, none⟩ (.slice b1 ks1.length cap1) = W := ⟨_, rfl⟩
  rw [hwb] at hS1
  obtain ⟨c0, c1, c2, c3, f0, f1, f2, f3⟩ := in4 ga
  go_wp2_with (first | (go_at_call 28; refine (hS1.must (s := S.sc) (by decide) hF hFl1).mono ?_; rintro e w9 ⟨rfl, j2, bad2, hS2, hFl2⟩; obtain ⟨c0, c1, c2, c3, f0, f1, f2, f3⟩ := in4 hS2.g; obtain ⟨d0, d1, d2, d3, e0, e1, e2, e3⟩ := in4 hS2.z))
  refine bodyPost_ret (res71 rfl (put4_same _ _ _ _ hS2.z)) rfl ?_
  exact hS2.close hFl2
set_option maxRecDepth 20000 in
set_option maxHeartbeats 2000000 in
theorem st_while (f : Nat) (hE : DRow f) (hK : DBlk f) (r : PRes) (Fin : Nat → Prop) (g : Nd → List PT → PR) (B : Nat) (ts : List Tok) (i : Nat) (w : World) (hF : FinOK ts Fin r) (hR : Dr w B ts i false) (hn0 : ¬ tx (rest ts i) = W.local_) (hn1 : ¬ tx (rest ts i) = W.if_) (hy : tx (rest ts i) = W.while_) (hP : ((P f 0 nil0 0 (rest ts (i + 1))).on fun x l => need W.do_ l fun l => (P f 7 (nd 4 []) 0 l).on fun b l => need W.end_ l fun l => g (nd 9 ([] ++ [x] ++ [b])) l) = some r) : Calls Tryz.prog 53 #[.pointer (some ⟨B, 0, none⟩)] w (NA no w B ts Fin r g) := by
  have hS := NS.new nil0 rfl hR
  have hBw := hR.lt
  obtain ⟨U, hU⟩ : ∃ U, (w.alloc zbx).alloc (nbx nil0 none 0) = U := ⟨_, rfl⟩
  rw [hU] at hS
  replace hU : (w.alloc (.cells #[.int .i64 0, .string ⟨#[]⟩, .int .i64 0, .slice none 0 0] 24)).alloc (.cells #[.int .i64 0, .string ⟨#[]⟩, .int .i64 0, .slice none 0 0] 24) = U := hU
  obtain ⟨c0, c1, c2, c3, f0, f1, f2, f3⟩ := in4 hS.g
  replace hS := hS.put 0 0 []
  obtain ⟨V, hV⟩ : ∃ V, put4 U (w.heap.size + 1) (.int .i64 0) (sk []) (.int .i64 0) (.slice none 0 0) = V := ⟨_, rfl⟩
  rw [hV] at hS
  replace hV : (((U.setCell ⟨w.heap.size + 1, 0, none⟩ (.int .i64 0)).setCell ⟨w.heap.size + 1, 1, none⟩ (.string ⟨#[]⟩)).setCell ⟨w.heap.size + 1, 2, none⟩ (.int .i64 0)).setCell ⟨w.heap.size + 1, 3, none⟩ (.slice none 0 0) = V := hV
  have hT0 := fun u h => eat_no B ts i false W.local_ hn0 u h
  have hT1 := fun u h => eat_no B ts i false W.if_ hn1 u h
  have hTy := fun u h => eat_yes B ts i false W.while_ hy (tx_lt hy (by decide)) u h
  go_enter Tryz.func53, Tryz.ntmps53
  go_wp2_with (go_at_call 31; refine Hid.out ?_)
  try rw [hV]
  obtain ⟨t, ht⟩ : ∃ m, w.heap.size + 1 = m := ⟨_, rfl⟩
  rw [ht] at hS ⊢
  clear hU hV ht c0 c1 c2 c3 f0 f1 f2 f3
  refine Lib.hid ?_
  refine (hT0 _ hS.R).mono ?_
  rintro e w1 ⟨rfl, hb⟩
  replace hS := hS.below hb
  clear hb
  go_wp2_with (first | (go_at_call_of 31 (Value.string ⟨#[105, 102]⟩); refine (hT1 _ hS.R).mono ?_; rintro e w1 ⟨rfl, hb⟩; replace hS := hS.below hb) | (go_at_call_of 31 (Value.string ⟨#[119, 104, 105, 108, 101]⟩); refine (hTy _ hS.R).mono ?_; rintro e w1 ⟨rfl, hRy, hky⟩; replace hS := hS.on hky hRy; obtain ⟨c0, c1, c2, c3, f0, f1, f2, f3⟩ := in4 hS.g) | (go_at_call 71; refine Hid.out ?_))
  replace hS := hS.kind 9
  obtain ⟨wk, hwk⟩ : ∃ W, w1.setCell ⟨t, 0, none⟩ (.int .i64 9) = W := ⟨_, rfl⟩
  rw [hwk] at hS ⊢
  clear hwk
  refine Lib.hid ?_
  have hFl : Fl ts Fin r (i + 1) false (fun l => (P f 0 nil0 0 l).on (fun x l => (fun ks l => need W.do_ l fun l => (P f 7 (nd 4 []) 0 l).on fun b l => need W.end_ l fun l => g (nd 9 (ks ++ [b])) l) ([] ++ [x]) l)) := .inr ⟨rfl, hP⟩
  clear hP
  refine (hS.exprs hE hF (by simp) (fun ks l => need W.do_ l fun l => (P f 7 (nd 4 []) 0 l).on fun b l => need W.end_ l fun l => g (nd 9 (ks ++ [b])) l) hFl).mono ?_
  rintro e wa ⟨ks1, b1, cap1, j1, bad1, rfl, hl1, ga, hS1, hFl1⟩
  obtain ⟨wb, hwb⟩ : ∃ W, wa.setCell ⟨t, 3, none⟩ (.slice b1 ks1.length cap1) = W := ⟨_, rfl⟩
  rw [hwb] at hS1
  obtain ⟨c0, c1, c2, c3, f0, f1, f2, f3⟩ := in4 ga
  obtain ⟨x0, x1, x2, x3, y0, y1, y2, y3⟩ := in4 hS1.g
  simp at hl1
  go_wp2_with (first | (go_at_call 72; refine (hS1.loop hK hF (by omega) (fun ks l => g (nd 9 ks) l) hFl1).mono ?_; rintro e wl ⟨ks3, b3, cap3, j2, bad2, rfl, gl, hS2, hFl2⟩; refine Hid.out ?_))
  obtain ⟨c0, c1, c2, c3, f0, f1, f2, f3⟩ := in4 gl
  obtain ⟨wm, hwm⟩ : ∃ W, put4 wl t (.int .i64 9) (sk []) (.int .i64 0) (.slice b3 ks3.length cap3) = W := ⟨_, rfl⟩
  rw [hwm] at hS2
  replace hwm : (((wl.setCell ⟨t, 0, none⟩ (.int .i64 9)).setCell ⟨t, 1, none⟩ (sk [])).setCell ⟨t, 2, none⟩ (.int .i64 0)).setCell ⟨t, 3, none⟩ (.slice b3 ks3.length cap3) = wm := hwm
  obtain ⟨x0, x1, x2, x3, y0, y1, y2, y3⟩ := in4 hS2.g
  obtain ⟨d0, d1, d2, d3, e0, e1, e2, e3⟩ := in4 hS2.z
  refine Lib.hid ?_
  go_wp2
  refine bodyPost_ret (res71 rfl (put4_same _ _ _ _ hS2.z)) rfl ?_
  exact hS2.close hFl2
set_option maxRecDepth 20000 in
set_option maxHeartbeats 2000000 in
theorem st_for (f : Nat) (hE : DRow f) (hK : DBlk f) (r : PRes) (Fin : Nat → Prop) (g : Nd → List PT → PR) (B : Nat) (ts : List Tok) (i : Nat) (w : World) (hF : FinOK ts Fin r) (hR : Dr w B ts i false) (hn0 : ¬ tx (rest ts i) = W.local_) (hn1 : ¬ tx (rest ts i) = W.if_) (hn2 : ¬ tx (rest ts i) = W.while_) (hy : tx (rest ts i) = W.for_) (hP : (needName (rest ts (i + 1)) (fun s l => need S.eq l fun l => (P f 0 nil0 0 l).on fun x l => need S.cm l fun l => (P f 0 nil0 0 l).on fun y l => need W.do_ l fun l => (P f 7 (nd 4 []) 0 l).on fun b l => need W.end_ l fun l => g ⟨10, s, 0, [] ++ [x] ++ [y] ++ [b]⟩ l)) = some r) : Calls Tryz.prog 53 #[.pointer (some ⟨B, 0, none⟩)] w (NA no w B ts Fin r g) := by
  have hS := NS.new nil0 rfl hR
  have hBw := hR.lt
  obtain ⟨U, hU⟩ : ∃ U, (w.alloc zbx).alloc (nbx nil0 none 0) = U := ⟨_, rfl⟩
  rw [hU] at hS
  replace hU : (w.alloc (.cells #[.int .i64 0, .string ⟨#[]⟩, .int .i64 0, .slice none 0 0] 24)).alloc (.cells #[.int .i64 0, .string ⟨#[]⟩, .int .i64 0, .slice none 0 0] 24) = U := hU
  obtain ⟨c0, c1, c2, c3, f0, f1, f2, f3⟩ := in4 hS.g
  replace hS := hS.put 0 0 []
  obtain ⟨V, hV⟩ : ∃ V, put4 U (w.heap.size + 1) (.int .i64 0) (sk []) (.int .i64 0) (.slice none 0 0) = V := ⟨_, rfl⟩
  rw [hV] at hS
  replace hV : (((U.setCell ⟨w.heap.size + 1, 0, none⟩ (.int .i64 0)).setCell ⟨w.heap.size + 1, 1, none⟩ (.string ⟨#[]⟩)).setCell ⟨w.heap.size + 1, 2, none⟩ (.int .i64 0)).setCell ⟨w.heap.size + 1, 3, none⟩ (.slice none 0 0) = V := hV
  have hT0 := fun u h => eat_no B ts i false W.local_ hn0 u h
  have hT1 := fun u h => eat_no B ts i false W.if_ hn1 u h
  have hT2 := fun u h => eat_no B ts i false W.while_ hn2 u h
  have hTy := fun u h => eat_yes B ts i false W.for_ hy (tx_lt hy (by decide)) u h
  go_enter Tryz.func53, Tryz.ntmps53
  go_wp2_with (go_at_call 31; refine Hid.out ?_)
  try rw [hV]
  obtain ⟨t, ht⟩ : ∃ m, w.heap.size + 1 = m := ⟨_, rfl⟩
  rw [ht] at hS ⊢
  clear hU hV ht c0 c1 c2 c3 f0 f1 f2 f3
  refine Lib.hid ?_
  refine (hT0 _ hS.R).mono ?_
  rintro e w1 ⟨rfl, hb⟩
  replace hS := hS.below hb
  clear hb
  go_wp2_with (first | (go_at_call_of 31 (Value.string ⟨#[105, 102]⟩); refine (hT1 _ hS.R).mono ?_; rintro e w1 ⟨rfl, hb⟩; replace hS := hS.below hb) | (go_at_call_of 31 (Value.string ⟨#[119, 104, 105, 108, 101]⟩); refine (hT2 _ hS.R).mono ?_; rintro e w1 ⟨rfl, hb⟩; replace hS := hS.below hb) | (go_at_call_of 31 (Value.string ⟨#[102, 111, 114]⟩); refine (hTy _ hS.R).mono ?_; rintro e w1 ⟨rfl, hRy, hky⟩; replace hS := hS.on hky hRy; obtain ⟨c0, c1, c2, c3, f0, f1, f2, f3⟩ := in4 hS.g) | (go_at_call 29; refine (hS.name hF (.inr ⟨rfl, hP⟩)).mono ?_; rintro e w2 ⟨s, j0, bad0, rfl, hS0, hFl⟩; refine Hid.out ?_))
  clear hP
  replace hS := hS0.put 10 0 s
  obtain ⟨c0, c1, c2, c3, f0, f1, f2, f3⟩ := in4 hS0.g
  obtain ⟨wp, hwp⟩ : ∃ W, put4 w2 t (.int .i64 10) (sk s) (.int .i64 0) (.slice none 0 0) = W := ⟨_, rfl⟩
  rw [hwp] at hS
  replace hwp : (((w2.setCell ⟨t, 0, none⟩ (.int .i64 10)).setCell ⟨t, 1, none⟩ (.string ⟨s.toArray⟩)).setCell ⟨t, 2, none⟩ (.int .i64 0)).setCell ⟨t, 3, none⟩ (.slice none 0 0) = wp := hwp
  refine Lib.hid ?_
  go_wp2_with (first | (go_at_call 28; refine Hid.out ?_))
  try rw [hwp]
  refine Lib.hid ?_
  clear hwp
  refine (hS.must (s := S.eq) (by decide) hF hFl).mono ?_
  rintro e w3 ⟨rfl, j0, bad0, hS, hFl⟩
  obtain ⟨c0, c1, c2, c3, f0, f1, f2, f3⟩ := in4 hS.g
  go_wp2_with (first | (go_at_call 71; refine (hS.exprs hE hF (by simp) (fun ks l => need S.cm l fun l => (P f 0 nil0 0 l).on fun y l => (fun ks l => need W.do_ l fun l => (P f 7 (nd 4 []) 0 l).on fun b l => need W.end_ l fun l => g ⟨10, s, 0, ks ++ [b]⟩ l) (ks ++ [y]) l) hFl).mono ?_; rintro e wa ⟨ks1, b1, cap1, j1, bad1, rfl, hl1, ga, hS1, hFl1⟩; refine Hid.out ?_))
  obtain ⟨wb, hwb⟩ : ∃ W, wa.setCell ⟨t, 3, none⟩ (.slice b1 ks1.length cap1) = W := ⟨_, rfl⟩
  rw [hwb] at hS1
  obtain ⟨c0, c1, c2, c3, f0, f1, f2, f3⟩ := in4 ga
  refine Lib.hid ?_
  go_wp2_with (first | (go_at_call 28; refine (hS1.must (s := S.cm) (by decide) hF hFl1).mono ?_; rintro e w5 ⟨rfl, j2, bad2, hS, hFl⟩; refine Hid.out ?_))
  obtain ⟨c0, c1, c2, c3, f0, f1, f2, f3⟩ := in4 hS.g
  clear hwb ga
  refine Lib.hid ?_
  go_wp2_with (first | (go_at_call 71; refine (hS.exprs hE hF (by simp at hl1; omega) (fun ks l => need W.do_ l fun l => (P f 7 (nd 4 []) 0 l).on fun b l => need W.end_ l fun l => g ⟨10, s, 0, ks ++ [b]⟩ l) hFl).mono ?_; rintro e wc ⟨ks2, b2, cap2, j1, bad1, rfl, hl2, gc, hS4, hFl4⟩; refine Hid.out ?_))
  obtain ⟨wd, hwd⟩ : ∃ W, wc.setCell ⟨t, 3, none⟩ (.slice b2 ks2.length cap2) = W := ⟨_, rfl⟩
  rw [hwd] at hS4
  obtain ⟨c0, c1, c2, c3, f0, f1, f2, f3⟩ := in4 gc
  obtain ⟨x0, x1, x2, x3, y0, y1, y2, y3⟩ := in4 hS4.g
  replace hl1 : ks2.length ≤ 5 := by simp at hl1; omega
  refine Lib.hid ?_
  go_wp2_with (first | (go_at_call 72; refine (hS4.loop hK hF (by omega) (fun ks l => g ⟨10, s, 0, ks⟩ l) hFl4).mono ?_; rintro e wl ⟨ks3, b3, cap3, j2, bad2, rfl, gl, hS2, hFl2⟩; refine Hid.out ?_))
  obtain ⟨c0, c1, c2, c3, f0, f1, f2, f3⟩ := in4 gl
  obtain ⟨wm, hwm⟩ : ∃ W, put4 wl t (.int .i64 10) (sk s) (.int .i64 0) (.slice b3 ks3.length cap3) = W := ⟨_, rfl⟩
  rw [hwm] at hS2
  replace hwm : (((wl.setCell ⟨t, 0, none⟩ (.int .i64 10)).setCell ⟨t, 1, none⟩ (sk s)).setCell ⟨t, 2, none⟩ (.int .i64 0)).setCell ⟨t, 3, none⟩ (.slice b3 ks3.length cap3) = wm := hwm
  obtain ⟨x0, x1, x2, x3, y0, y1, y2, y3⟩ := in4 hS2.g
  obtain ⟨d0, d1, d2, d3, e0, e1, e2, e3⟩ := in4 hS2.z
  refine Lib.hid ?_
  go_wp2
  refine bodyPost_ret (res71 rfl (put4_same _ _ _ _ hS2.z)) rfl ?_
  exact hS2.close hFl2
set_option maxRecDepth 20000 in
set_option maxHeartbeats 2000000 in
theorem st_if (f : Nat) (hE : DRow f) (hK : DBlk f) (r : PRes) (Fin : Nat → Prop) (g : Nd → List PT → PR) (B : Nat) (ts : List Tok) (i : Nat) (w : World) (hF : FinOK ts Fin r) (hR : Dr w B ts i false) (hn0 : ¬ tx (rest ts i) = W.local_) (hy : tx (rest ts i) = W.if_) (hP : ((P f 0 nil0 0 (rest ts (i + 1))).on fun x l => (fun ks l => need W.then_ l fun l => (P f 7 (nd 4 []) 0 l).on fun b l => if tx l = W.else_ then (P f 7 (nd 4 []) 0 l.tail).on fun c l => need W.end_ l fun l => g (nd 8 (ks ++ [b] ++ [c])) l else need W.end_ l fun l => g (nd 8 (ks ++ [b])) l) ([] ++ [x]) l) = some r) : Calls Tryz.prog 53 #[.pointer (some ⟨B, 0, none⟩)] w (NA no w B ts Fin r g) := by
  have hS := NS.new nil0 rfl hR
  have hBw := hR.lt
  obtain ⟨U, hU⟩ : ∃ U, (w.alloc zbx).alloc (nbx nil0 none 0) = U := ⟨_, rfl⟩
  rw [hU] at hS
  replace hU : (w.alloc (.cells #[.int .i64 0, .string ⟨#[]⟩, .int .i64 0, .slice none 0 0] 24)).alloc (.cells #[.int .i64 0, .string ⟨#[]⟩, .int .i64 0, .slice none 0 0] 24) = U := hU
  obtain ⟨c0, c1, c2, c3, f0, f1, f2, f3⟩ := in4 hS.g
  replace hS := hS.put 0 0 []
  obtain ⟨V, hV⟩ : ∃ V, put4 U (w.heap.size + 1) (.int .i64 0) (sk []) (.int .i64 0) (.slice none 0 0) = V := ⟨_, rfl⟩
  rw [hV] at hS
  replace hV : (((U.setCell ⟨w.heap.size + 1, 0, none⟩ (.int .i64 0)).setCell ⟨w.heap.size + 1, 1, none⟩ (.string ⟨#[]⟩)).setCell ⟨w.heap.size + 1, 2, none⟩ (.int .i64 0)).setCell ⟨w.heap.size + 1, 3, none⟩ (.slice none 0 0) = V := hV
  have hT0 := fun u h => eat_no B ts i false W.local_ hn0 u h
  have hTy := fun u h => eat_yes B ts i false W.if_ hy (tx_lt hy (by decide)) u h
  go_enter Tryz.func53, Tryz.ntmps53
  go_wp2_with (go_at_call 31; refine Hid.out ?_)
  try rw [hV]
  obtain ⟨t, ht⟩ : ∃ m, w.heap.size + 1 = m := ⟨_, rfl⟩
  rw [ht] at hS ⊢
  clear hU hV ht c0 c1 c2 c3 f0 f1 f2 f3
  refine Lib.hid ?_
  refine (hT0 _ hS.R).mono ?_
  rintro e w1 ⟨rfl, hb⟩
  replace hS := hS.below hb
  clear hb
  go_wp2_with (first | (go_at_call_of 31 (Value.string ⟨#[105, 102]⟩); refine (hTy _ hS.R).mono ?_; rintro e w1 ⟨rfl, hRy, hky⟩; replace hS := hS.on hky hRy; obtain ⟨c0, c1, c2, c3, f0, f1, f2, f3⟩ := in4 hS.g) | (go_at_call 71; refine Hid.out ?_))
  replace hS := hS.kind 8
  obtain ⟨wk, hwk⟩ : ∃ W, w1.setCell ⟨t, 0, none⟩ (.int .i64 8) = W := ⟨_, rfl⟩
  rw [hwk] at hS ⊢
  clear hwk
  refine Lib.hid ?_
  have hFl : Fl ts Fin r (i + 1) false (fun l => (P f 0 nil0 0 l).on (fun x l => (fun ks l => need W.then_ l fun l => (P f 7 (nd 4 []) 0 l).on fun b l => if tx l = W.else_ then (P f 7 (nd 4 []) 0 l.tail).on fun c l => need W.end_ l fun l => g (nd 8 (ks ++ [b] ++ [c])) l else need W.end_ l fun l => g (nd 8 (ks ++ [b])) l) ([] ++ [x]) l)) := .inr ⟨rfl, hP⟩
  clear hP
  refine (hS.exprs hE hF (by simp) (fun ks l => need W.then_ l fun l => (P f 7 (nd 4 []) 0 l).on fun b l => if tx l = W.else_ then (P f 7 (nd 4 []) 0 l.tail).on fun c l => need W.end_ l fun l => g (nd 8 (ks ++ [b] ++ [c])) l else need W.end_ l fun l => g (nd 8 (ks ++ [b])) l) hFl).mono ?_
  rintro e wa ⟨ks1, b1, cap1, j1, bad1, rfl, hl1, ga, hS1, hFl1⟩
  obtain ⟨wb, hwb⟩ : ∃ W, wa.setCell ⟨t, 3, none⟩ (.slice b1 ks1.length cap1) = W := ⟨_, rfl⟩
  rw [hwb] at hS1
  obtain ⟨c0, c1, c2, c3, f0, f1, f2, f3⟩ := in4 ga
  go_wp2_with (first | (go_at_call 28; refine (hS1.must (s := W.then_) (by decide) hF hFl1).mono ?_; rintro e w3 ⟨rfl, j3, bad3, hS3, hFl3⟩) | (go_at_call 32; refine (hS3.block hK hF _ hFl3).mono ?_; rintro e w4 ⟨y, by1, cy, j4, bad4, rfl, hS4, hy4, hFl4⟩; refine Hid.out ?_))
  simp at hl1
  clear hwb ga hS1 hS3 hS hFl3 hFl1 hTy hT0
  obtain ⟨i0, hi0, hz0, hz1, hz2⟩ := info_parts info24
  have hb5 := ext_alloc (ext_alloc (Below.refl w4.heap.size w4) (nbx y by1 cy)) (nbx y by1 cy)
  have hnew := alloc_new (w4.alloc (nbx y by1 cy)) (nbx y by1 cy)
  rw [World.size_alloc] at hnew
  have hS5 := hS4.below hb5
  have hy5 := hy4.below hb5
  obtain ⟨c0, c1, c2, c3, f0, f1, f2, f3⟩ := in4 hS4.g
  obtain ⟨x0, x1, x2, x3, y0, y1, y2, y3⟩ := in4a hS4.g
  refine Lib.hid ?_
  go_wp2_with (at_builtin; refine Hid.out ?_)
  obtain ⟨Wq, hWq⟩ : ∃ V, (w4.alloc (nbx y by1 cy)).alloc (nbx y by1 cy) = V := ⟨_, rfl⟩
  rw [hWq] at hnew hS5 hy5
  replace hWq : (w4.alloc (.cells #[.int .i64 y.k, .string ⟨y.t.toArray⟩, .int .i64 y.n, .slice by1 y.kids.length cy] 24)).alloc (.cells #[.int .i64 y.k, .string ⟨y.t.toArray⟩, .int .i64 y.n, .slice by1 y.kids.length cy] 24) = Wq := hWq
  rw [hWq]
  obtain ⟨xs, ho, hn⟩ := hS5.ready
  dsimp only at ho hn hy5
  have q35 := hS5.g
  have htl := hS5.lt
  have hne3 : some t ≠ Value.ownBlock (.slice b1 ks1.length cap1) := fun e => by have := (hS5.own _ e.symm).1; omega
  have hn1 : ks1.length + 1 ≤ maxLen := by unfold maxLen; omega
  have hb1 : (ks1.length + 1) * 56 ≤ 140737488355328 := by omega
  clear hWq hb5 c0 c1 c2 c3 f0 f1 f2 f3 x0 x1 x2 x3 y0 y1 y2 y3
  refine Lib.hid ?_
  go_wp2_with (first | (at_builtin; refine wpList_append_lies _ (by rfl) _ _ _ (by rfl) 0 24 i0 _ 4 56 Tryz.underlying22 hi0 hz0 hz1 hz2 rfl (by omega) (.slice b1 ks1.length cap1) ks1.length _ (by rfl) ho ⟨w4.heap.size + 1, 0, none⟩ 1 1 _ (by rfl) (by rfl) (cells_of y by1 cy hnew) (by simp [Value.oneCell']) (by omega) hn1 hb1 (Nat.zero_le _) _ rfl ?_; intro g3 cap3 w5 hown1 hgrow hat1 hlt1; have p3w := (hgrow.block _ (block_lt q35) hne3).trans q35; obtain ⟨c0, c1, c2, c3, f0, f1, f2, f3⟩ := in4 p3w) | (go_at_call 31; refine Hid.out ?_))
  obtain ⟨W6, hW6⟩ : ∃ W, w5.setCell ⟨t, 3, none⟩ (.slice (some ⟨g3, 0, none⟩) (ks1.length + 1) cap3) = W := ⟨_, rfl⟩
  have hS6 := hS5.app ho hn hy5 hown1 hgrow hat1 hW6
  rw [hW6]
  clear hW6 hown1 hgrow hat1 hlt1 ho hn hy5 hS5 q35 hnew c0 c1 c2 c3 f0 f1 f2 f3 p3w
  refine Lib.hid ?_
  refine (hS6.eat W.else_ (by decide)).mono ?_
  rintro e w6 ⟨ye, j6, rfl, hS7, hY⟩
  have hl7 : (ks1 ++ [y]).length ≤ 5 := by simp; omega
  clear hS4 hy4 hS6
  cases ye with
  | false =>
    have hFl6 : Fl ts Fin r j6 bad4 (fun l => need W.end_ l fun l => g (nd 8 (ks1 ++ [y])) l) := by
      rcases hY with ⟨h, _⟩ | ⟨_, h2, rfl⟩
      · cases h
      · rcases hFl4 with h0 | ⟨h1, h3⟩
        · exact .inl h0
        · subst h1
          dsimp only at h3
          rw [if_neg (show ¬ tx (rest ts j6) = W.else_ from h2)] at h3
          exact .inr ⟨rfl, h3⟩
    clear hY hFl4
    go_wp2_with ((go_at_call 28; refine (hS7.must (s := W.end_) (by decide) hF hFl6).mono ?_; rintro e w9 ⟨rfl, j2, bad2, hS2, hFl2⟩; obtain ⟨c0, c1, c2, c3, f0, f1, f2, f3⟩ := in4 hS2.g; obtain ⟨d0, d1, d2, d3, e0, e1, e2, e3⟩ := in4 hS2.z))
    refine bodyPost_ret (res71 rfl (put4_same _ _ _ _ hS2.z)) rfl ?_
    rw [show ks1.length + 1 = (ks1 ++ [y]).length by simp]
    exact hS2.close hFl2
  | true =>
    obtain ⟨rfl, hFl6⟩ : bad4 = false ∧ Fl ts Fin r j6 false (fun l => (P f 7 (nd 4 []) 0 l).on fun c l => need W.end_ l fun l => g (nd 8 (ks1 ++ [y] ++ [c])) l) := by
      rcases hY with ⟨_, rfl, h2, rfl⟩ | ⟨h, _⟩
      · rcases hFl4 with ⟨h0, _⟩ | ⟨_, h3⟩
        · cases h0
        · dsimp only at h3
          rw [if_pos h2, rest_tail] at h3
          exact ⟨rfl, .inr ⟨rfl, h3⟩⟩
      · cases h
    clear hY hFl4
    obtain ⟨ks2, hks2⟩ : ∃ l, ks1 ++ [y] = l := ⟨_, rfl⟩
    rw [hks2] at hS7 hl7 hFl6
    clear hks2
    go_wp2_with (go_at_call 32; refine (hS7.block hK hF _ hFl6).mono ?_; rintro e w8 ⟨yb, byb, cyb, j8, bad8, rfl, hS8, hy8, hFl8⟩; refine Hid.out ?_)
    have hb5 := ext_alloc (ext_alloc (Below.refl w8.heap.size w8) (nbx yb byb cyb)) (nbx yb byb cyb)
    have hnew := alloc_new (w8.alloc (nbx yb byb cyb)) (nbx yb byb cyb)
    rw [World.size_alloc] at hnew
    have hS5 := hS8.below hb5
    have hy5 := hy8.below hb5
    obtain ⟨c0, c1, c2, c3, f0, f1, f2, f3⟩ := in4 hS8.g
    obtain ⟨x0, x1, x2, x3, y0, y1, y2, y3⟩ := in4a hS8.g
    refine Lib.hid ?_
    go_wp2_with (at_builtin; refine Hid.out ?_)
    obtain ⟨Wq, hWq⟩ : ∃ V, (w8.alloc (nbx yb byb cyb)).alloc (nbx yb byb cyb) = V := ⟨_, rfl⟩
    rw [hWq] at hnew hS5 hy5
    replace hWq : (w8.alloc (.cells #[.int .i64 yb.k, .string ⟨yb.t.toArray⟩, .int .i64 yb.n, .slice byb yb.kids.length cyb] 24)).alloc (.cells #[.int .i64 yb.k, .string ⟨yb.t.toArray⟩, .int .i64 yb.n, .slice byb yb.kids.length cyb] 24) = Wq := hWq
    rw [hWq]
    obtain ⟨xs, ho, hn⟩ := hS5.ready
    dsimp only at ho hn hy5
    have q35 := hS5.g
    have htl := hS5.lt
    have hne3 : some t ≠ Value.ownBlock (.slice (some ⟨g3, 0, none⟩) ks2.length cap3) := fun e => by have := (hS5.own _ e.symm).1; omega
    have hn1 : ks2.length + 1 ≤ maxLen := by unfold maxLen; omega
    have hb1 : (ks2.length + 1) * 56 ≤ 140737488355328 := by omega
    clear hWq hb5 c0 c1 c2 c3 f0 f1 f2 f3 x0 x1 x2 x3 y0 y1 y2 y3
    refine Lib.hid ?_
    go_wp2_with (first | (at_builtin; refine wpList_append_lies _ (by rfl) _ _ _ (by rfl) 0 24 i0 _ 4 56 Tryz.underlying22 hi0 hz0 hz1 hz2 rfl (by omega) (.slice (some ⟨g3, 0, none⟩) ks2.length cap3) ks2.length _ (by rfl) ho ⟨w8.heap.size + 1, 0, none⟩ 1 1 _ (by rfl) (by rfl) (cells_of yb byb cyb hnew) (by simp [Value.oneCell']) (by omega) hn1 hb1 (Nat.zero_le _) _ rfl ?_; intro g3 cap3 w5 hown1 hgrow hat1 hlt1; have p3w := (hgrow.block _ (block_lt q35) hne3).trans q35; obtain ⟨c0, c1, c2, c3, f0, f1, f2, f3⟩ := in4 p3w) | (go_at_call 28; refine Hid.out ?_))
    obtain ⟨W9, hW9⟩ : ∃ W, w5.setCell ⟨t, 3, none⟩ (.slice (some ⟨g3, 0, none⟩) (ks2.length + 1) cap3) = W := ⟨_, rfl⟩
    have hS9 := hS5.app ho hn hy5 hown1 hgrow hat1 hW9
    rw [hW9]
    clear hW9 hown1 hgrow hat1 hlt1 ho hn hy5 hS5 q35 hnew c0 c1 c2 c3 f0 f1 f2 f3 p3w
    refine Lib.hid ?_
    refine (hS9.must (s := W.end_) (by decide) hF hFl8).mono ?_
    rintro e w9 ⟨rfl, j2, bad2, hS2, hFl2⟩
    obtain ⟨c0, c1, c2, c3, f0, f1, f2, f3⟩ := in4 hS2.g
    obtain ⟨d0, d1, d2, d3, e0, e1, e2, e3⟩ := in4 hS2.z
    go_wp2
    refine bodyPost_ret (res71 rfl (put4_same _ _ _ _ hS2.z)) rfl ?_
    rw [show ks2.length + 1 = (ks2 ++ [yb]).length by simp]
    exact hS2.close hFl2
set_option maxRecDepth 20000 in
set_option maxHeartbeats 2000000 in
theorem st_simple (f : Nat) (hX : DSim f) (r : PRes) (Fin : Nat → Prop) (g : Nd → List PT → PR) (B : Nat) (ts : List Tok) (i : Nat) (w : World) (hF : FinOK ts Fin r) (hR : Dr w B ts i false) (hn0 : ¬ tx (rest ts i) = W.local_) (hn1 : ¬ tx (rest ts i) = W.if_) (hn2 : ¬ tx (rest ts i) = W.while_) (hn3 : ¬ tx (rest ts i) = W.for_) (hn4 : ¬ tx (rest ts i) = W.return_) (hn5 : ¬ tx (rest ts i) = W.emit_) (hP : (needName (rest ts i) (fun s l => (P f 9 ⟨18, s, 0, []⟩ 0 l).on fun n l => need S.sc l fun l => g n l)) = some r) : Calls Tryz.prog 53 #[.pointer (some ⟨B, 0, none⟩)] w (NA no w B ts Fin r g) := by
  have hS := NS.new nil0 rfl hR
  have hBw := hR.lt
  obtain ⟨U, hU⟩ : ∃ U, (w.alloc zbx).alloc (nbx nil0 none 0) = U := ⟨_, rfl⟩
  rw [hU] at hS
  replace hU : (w.alloc (.cells #[.int .i64 0, .string ⟨#[]⟩, .int .i64 0, .slice none 0 0] 24)).alloc (.cells #[.int .i64 0, .string ⟨#[]⟩, .int .i64 0, .slice none 0 0] 24) = U := hU
  obtain ⟨c0, c1, c2, c3, f0, f1, f2, f3⟩ := in4 hS.g
  replace hS := hS.put 0 0 []
  obtain ⟨V, hV⟩ : ∃ V, put4 U (w.heap.size + 1) (.int .i64 0) (sk []) (.int .i64 0) (.slice none 0 0) = V := ⟨_, rfl⟩
  rw [hV] at hS
  replace hV : (((U.setCell ⟨w.heap.size + 1, 0, none⟩ (.int .i64 0)).setCell ⟨w.heap.size + 1, 1, none⟩ (.string ⟨#[]⟩)).setCell ⟨w.heap.size + 1, 2, none⟩ (.int .i64 0)).setCell ⟨w.heap.size + 1, 3, none⟩ (.slice none 0 0) = V := hV
  have hT0 := fun u h => eat_no B ts i false W.local_ hn0 u h
  have hT1 := fun u h => eat_no B ts i false W.if_ hn1 u h
  have hT2 := fun u h => eat_no B ts i false W.while_ hn2 u h
  have hT3 := fun u h => eat_no B ts i false W.for_ hn3 u h
  have hT4 := fun u h => eat_no B ts i false W.return_ hn4 u h
  have hT5 := fun u h => eat_no B ts i false W.emit_ hn5 u h
  go_enter Tryz.func53, Tryz.ntmps53
  go_wp2_with (go_at_call 31; refine Hid.out ?_)
  try rw [hV]
  obtain ⟨t, ht⟩ : ∃ m, w.heap.size + 1 = m := ⟨_, rfl⟩
  rw [ht] at hS ⊢
  clear hU hV ht c0 c1 c2 c3 f0 f1 f2 f3
  refine Lib.hid ?_
  refine (hT0 _ hS.R).mono ?_
  rintro e w1 ⟨rfl, hb⟩
  replace hS := hS.below hb
  clear hb
  go_wp2_with (first | (go_at_call_of 31 (Value.string ⟨#[105, 102]⟩); refine (hT1 _ hS.R).mono ?_; rintro e w1 ⟨rfl, hb⟩; replace hS := hS.below hb) | (go_at_call_of 31 (Value.string ⟨#[119, 104, 105, 108, 101]⟩); refine (hT2 _ hS.R).mono ?_; rintro e w1 ⟨rfl, hb⟩; replace hS := hS.below hb) | (go_at_call_of 31 (Value.string ⟨#[102, 111, 114]⟩); refine (hT3 _ hS.R).mono ?_; rintro e w1 ⟨rfl, hb⟩; replace hS := hS.below hb) | (go_at_call_of 31 (Value.string ⟨#[114, 101, 116, 117, 114, 110]⟩); refine (hT4 _ hS.R).mono ?_; rintro e w1 ⟨rfl, hb⟩; replace hS := hS.below hb) | (go_at_call_of 31 (Value.string ⟨#[101, 109, 105, 116]⟩); refine (hT5 _ hS.R).mono ?_; rintro e w1 ⟨rfl, hb⟩; replace hS := hS.below hb) | (go_at_call 73; refine (hX r Fin _ B ts i _ hF hS.R hP).mono ?_; rintro e w2 ⟨x, bx, cx, j1, bad1, rfl, hN, hR1, hk1, hFl1⟩; refine Hid.out ?_))
  have h1 := hS.lt
  have h3 := block_lt hS.g
  have g2 := hk1.box hS.g (by omega)
  have hS1 := NT.put g2 (hk1.box hS.z (by omega)) (hN.weak (fun q hq _ => by have := hq.resolve_left id; omega)) hR1 (hS.K.trans hk1) h1 hBw
  obtain ⟨wm, hwm⟩ : ∃ W, put4 w2 t (.int .i64 x.k) (sk x.t) (.int .i64 x.n) (.slice bx x.kids.length cx) = W := ⟨_, rfl⟩
  rw [hwm] at hS1
  replace hwm : (((w2.setCell ⟨t, 0, none⟩ (.int .i64 x.k)).setCell ⟨t, 1, none⟩ (sk x.t)).setCell ⟨t, 2, none⟩ (.int .i64 x.n)).setCell ⟨t, 3, none⟩ (.slice bx x.kids.length cx) = wm := hwm
  obtain ⟨c0, c1, c2, c3, f0, f1, f2, f3⟩ := in4 g2
  refine Lib.hid ?_
  go_wp2_with (first | (go_at_call 28; refine (hS1.must (s := S.sc) (by decide) hF hFl1).mono ?_; rintro e w9 ⟨rfl, j2, bad2, hS2, hFl2⟩; obtain ⟨c0, c1, c2, c3, f0, f1, f2, f3⟩ := in4 hS2.g; obtain ⟨d0, d1, d2, d3, e0, e1, e2, e3⟩ := in4 hS2.z))
  refine bodyPost_ret (res71 rfl (put4_same _ _ _ _ hS2.z)) rfl ?_
  exact hS2.close hFl2
end Go.Proofs.YtnnppenlfocgiaaGreatDoor
