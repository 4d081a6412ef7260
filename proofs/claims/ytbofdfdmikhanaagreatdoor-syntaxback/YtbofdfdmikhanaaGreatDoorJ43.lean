/- The program's Parse: a program. SyntaxParses, walked. -/
import Derived.Test.YtbofdfdmikhanaaGreatDoorJ42
namespace Go.Proofs.YtbofdfdmikhanaaGreatDoor
open Go.RowKit
open Go

set_option maxRecDepth 20000 in
set_option maxHeartbeats 1000000 in
theorem parse_big (s : ByteArray) (ts : List Tok) (n : Nd) (l : List PT) (hfit : fitB n = false) (w : World) (hE : ErrV w) (hsp : SpTab w) (hR : scanAll s.data.toList = .inr ts) (hP : P 64012 12 (nd 1 []) 0 (ts.map pt) = some (.inr (n, l))) : Calls Tryz.prog 7 #[.string s] w (POut w (.inl (1, 0))) := by
  obtain ⟨hlen, hV, _⟩ := toks_of hR
  have hPX := px_new w
  have hS : Calls Tryz.prog 12 #[.string s] ((w.alloc zbx).alloc (.cells #[.int .i64 0, .int .i64 0] 27)) fun e w' => (∃ b d, e = .returned (.tuple #[.slice b ts.length d, .agg #[.int .i64 0, .int .i64 0]]) ∧ ts.length ≤ d ∧ TokAt w' b ts w'.heap.size) ∧ Below ((w.alloc zbx).alloc (.cells #[.int .i64 0, .int .i64 0] 27)).heap.size ((w.alloc zbx).alloc (.cells #[.int .i64 0, .int .i64 0] 27)) w' := (scan_any s _ (hE.on hPX.bl)).mono fun e w' h => by
    rw [hR] at h
    obtain ⟨⟨b, n, d, h1, h3⟩, h2⟩ := h
    obtain ⟨rfl, h4, h5⟩ := tokAt_of h3
    exact ⟨⟨b, d, h1, h4, h5⟩, h2⟩
  clear hR
  obtain ⟨L, hL⟩ : ∃ L, ts.length = L := ⟨_, rfl⟩
  rw [hL] at hS
  go_enter Tryz.func7, Tryz.ntmps7
  go_wp2_with (first | (go_at_call 12; refine hS.mono ?_; rintro e w1 ⟨⟨b1, d1, rfl, hd1, hT1⟩, hb1⟩) | (go_at_call 13; refine Hid.out ?_))
  have hP1 := hPX.on hb1
  have hb2 := ext_alloc (Below.refl w1.heap.size w1) (.cells #[.int .i64 0, .int .i64 0] 27)
  have hP2 := hP1.on hb2
  have hRd := read_ok ts b1 d1 s.size n l (w1.alloc (.cells #[.int .i64 0, .int .i64 0] 27)) hV ((hT1.below hb2).mono (by simp)) (hsp.below hP2.bl) hlen (by omega) hP
  rw [hL] at hRd
  have g2 := alloc_new w1 (.cells #[.int .i64 0, .int .i64 0] 27)
  have hz := block_lt hP1.g1
  refine Lib.hid ?_
  go_wp2_with (go_at_call 13; refine hRd.mono ?_; rintro e w3 ⟨b3, cap3, rfl, hN, hb3⟩; refine Hid.out ?_)
  have hP3 := hP2.on hb3
  have g3 := block_below hb3 g2
  rw [World.size_alloc] at hN
  obtain ⟨F, hF⟩ : ∃ F, w1.heap.size = F := ⟨_, rfl⟩
  rw [hF] at g3 hz hN
  rw [hF]
  have hz3 := block_lt g3
  clear hRd hF hS hb2 hb3 hP1 hP2 hT1 g2
  obtain ⟨k0, k1, l0, l1⟩ := in2 g3
  have s0 := fun o => (in2 (block_alloc o g3)).c0
  have s1 := fun o => (in2 (block_alloc o g3)).c1
  have s2 := fun o => (in2 (block_alloc o g3)).f0
  have s3 := fun o => (in2 (block_alloc o g3)).f1
  have n1' : ¬ w.heap.size = F := by omega
  have n2' : ¬ F = w.heap.size := by omega
  have n3' : ¬ w.heap.size + 1 = F := by omega
  have n4' : ¬ F = w.heap.size + 1 := by omega
  have n5' : ¬ F = w3.heap.size := by omega
  have n6' : ¬ w3.heap.size = F := by omega
  have hkF : Keeps (fun q => q = F) w3 (pu2 w3 F (.int .i64 0) (.int .i64 0)) := pu2_self _ _ _ _
  have hPF : PX w (pu2 w3 F (.int .i64 0) (.int .i64 0)) := ⟨hkF.box hP3.g0 (by omega), hkF.box hP3.g1 (by omega), ((Keeps.of_below (S := no) hP3.bl).then hkF (fun q hq e => by omega)).below (Nat.le_refl _) (fun _ _ => id)⟩
  have hNF := hN.keep hkF (fun q hq _ e => by omega)
  have xb := ext_alloc (Below.refl _ (pu2 w3 F (.int .i64 0) (.int .i64 0))) (nbx n b3 cap3)
  have hPY := hPF.on xb
  have hNY := hNF.below xb
  have gY := alloc_new (pu2 w3 F (.int .i64 0) (.int .i64 0)) (nbx n b3 cap3)
  have esz : (pu2 w3 F (.int .i64 0) (.int .i64 0)).heap.size = w3.heap.size := by simp
  rw [esz] at gY
  refine Lib.hid ?_
  go_wp2_with (go_at_call 14; refine Hid.out ?_)
  obtain ⟨Y, hY⟩ : ∃ Y, ((w3.setCell ⟨F, 0, none⟩ (.int .i64 0)).setCell ⟨F, 1, none⟩ (.int .i64 0)).alloc (.cells #[.int .i64 n.k, .string ⟨n.t.toArray⟩, .int .i64 n.n, .slice b3 n.kids.length cap3] 24) = Y := ⟨_, rfl⟩
  replace hPY : PX w Y := hY ▸ hPY
  replace gY : Y.heap[w3.heap.size]? = some (nbx n b3 cap3) := hY ▸ gY
  replace hNY : NdV (fun g => F + 1 ≤ g) Y n (ndv n b3 cap3) := hY ▸ hNY
  rw [hY]
  have hz4 : w.heap.size + 1 < w3.heap.size := by omega
  obtain ⟨t3, ht3⟩ : ∃ t3, w3.heap.size = t3 := ⟨_, rfl⟩
  rw [ht3] at gY hz4
  rw [ht3]
  clear hY hkF hPF xb k0 k1 l0 l1 s0 s1 s2 s3 n1' n2' n3' n4' n5' n6' esz hNF hN g3 hP3 ht3 hz3
  have hFt := fits_any _ n b3 cap3 Y hNY
  rw [hfit] at hFt
  refine Lib.hid ?_
  go_wp2_with (go_at_call 14; refine hFt.mono ?_; rintro e w5 ⟨rfl, hb5⟩; refine Hid.out ?_)
  have hP5 := hPY.on hb5
  have g5 := block_below hb5 gY
  have hN5 := hNY.below hb5
  clear hFt hPY gY hNY hb5
  obtain ⟨c0, c1, c2, c3, f0, f1, f2, f3⟩ := in4 hP5.g0
  obtain ⟨p0, p1, q0, q1⟩ := in2 hP5.g1
  obtain ⟨x0, x1, x2, x3, y0, y1, y2, y3⟩ := in4 g5
  refine Lib.hid ?_
  go_wp2
  obtain ⟨X, hX⟩ : ∃ X, (((((w5.setCell ⟨w.heap.size, 0, none⟩ (.int .i64 0)).setCell ⟨w.heap.size, 1, none⟩ (.string ⟨#[]⟩)).setCell ⟨w.heap.size, 2, none⟩ (.int .i64 0)).setCell ⟨w.heap.size, 3, none⟩ (.slice none 0 0)).setCell ⟨w.heap.size + 1, 0, none⟩ (.int .i64 1)).setCell ⟨w.heap.size + 1, 1, none⟩ (.int .i64 0) = X := ⟨_, rfl⟩
  obtain ⟨z1, z2, z3⟩ := px_fault hP5 1 0 hX
  rw [hX]
  clear hX
  exact bodyPost_ret (resP7 rfl rfl z1 z2) rfl ⟨rfl, z3⟩
set_option maxRecDepth 20000 in
set_option maxHeartbeats 1000000 in
theorem parse_prog (s : ByteArray) (ts : List Tok) (n : Nd) (l : List PT) (hfit : fitB n = true) (w : World) (hE : ErrV w) (hsp : SpTab w) (hR : scanAll s.data.toList = .inr ts) (hP : P 64012 12 (nd 1 []) 0 (ts.map pt) = some (.inr (n, l))) : Calls Tryz.prog 7 #[.string s] w (POut w (.inr n)) := by
  obtain ⟨hlen, hV, _⟩ := toks_of hR
  have hPX := px_new w
  have hS : Calls Tryz.prog 12 #[.string s] ((w.alloc zbx).alloc (.cells #[.int .i64 0, .int .i64 0] 27)) fun e w' => (∃ b d, e = .returned (.tuple #[.slice b ts.length d, .agg #[.int .i64 0, .int .i64 0]]) ∧ ts.length ≤ d ∧ TokAt w' b ts w'.heap.size) ∧ Below ((w.alloc zbx).alloc (.cells #[.int .i64 0, .int .i64 0] 27)).heap.size ((w.alloc zbx).alloc (.cells #[.int .i64 0, .int .i64 0] 27)) w' := (scan_any s _ (hE.on hPX.bl)).mono fun e w' h => by
    rw [hR] at h
    obtain ⟨⟨b, n, d, h1, h3⟩, h2⟩ := h
    obtain ⟨rfl, h4, h5⟩ := tokAt_of h3
    exact ⟨⟨b, d, h1, h4, h5⟩, h2⟩
  clear hR
  obtain ⟨L, hL⟩ : ∃ L, ts.length = L := ⟨_, rfl⟩
  rw [hL] at hS
  go_enter Tryz.func7, Tryz.ntmps7
  go_wp2_with (first | (go_at_call 12; refine hS.mono ?_; rintro e w1 ⟨⟨b1, d1, rfl, hd1, hT1⟩, hb1⟩) | (go_at_call 13; refine Hid.out ?_))
  have hP1 := hPX.on hb1
  have hb2 := ext_alloc (Below.refl w1.heap.size w1) (.cells #[.int .i64 0, .int .i64 0] 27)
  have hP2 := hP1.on hb2
  have hRd := read_ok ts b1 d1 s.size n l (w1.alloc (.cells #[.int .i64 0, .int .i64 0] 27)) hV ((hT1.below hb2).mono (by simp)) (hsp.below hP2.bl) hlen (by omega) hP
  rw [hL] at hRd
  have g2 := alloc_new w1 (.cells #[.int .i64 0, .int .i64 0] 27)
  have hz := block_lt hP1.g1
  refine Lib.hid ?_
  go_wp2_with (go_at_call 13; refine hRd.mono ?_; rintro e w3 ⟨b3, cap3, rfl, hN, hb3⟩; refine Hid.out ?_)
  have hP3 := hP2.on hb3
  have g3 := block_below hb3 g2
  rw [World.size_alloc] at hN
  obtain ⟨F, hF⟩ : ∃ F, w1.heap.size = F := ⟨_, rfl⟩
  rw [hF] at g3 hz hN
  rw [hF]
  have hz3 := block_lt g3
  clear hRd hF hS hb2 hb3 hP1 hP2 hT1 g2
  obtain ⟨k0, k1, l0, l1⟩ := in2 g3
  have s0 := fun o => (in2 (block_alloc o g3)).c0
  have s1 := fun o => (in2 (block_alloc o g3)).c1
  have s2 := fun o => (in2 (block_alloc o g3)).f0
  have s3 := fun o => (in2 (block_alloc o g3)).f1
  have n1' : ¬ w.heap.size = F := by omega
  have n2' : ¬ F = w.heap.size := by omega
  have n3' : ¬ w.heap.size + 1 = F := by omega
  have n4' : ¬ F = w.heap.size + 1 := by omega
  have n5' : ¬ F = w3.heap.size := by omega
  have n6' : ¬ w3.heap.size = F := by omega
  have hkF : Keeps (fun q => q = F) w3 (pu2 w3 F (.int .i64 0) (.int .i64 0)) := pu2_self _ _ _ _
  have hPF : PX w (pu2 w3 F (.int .i64 0) (.int .i64 0)) := ⟨hkF.box hP3.g0 (by omega), hkF.box hP3.g1 (by omega), ((Keeps.of_below (S := no) hP3.bl).then hkF (fun q hq e => by omega)).below (Nat.le_refl _) (fun _ _ => id)⟩
  have hNF := hN.keep hkF (fun q hq _ e => by omega)
  have xb := ext_alloc (Below.refl _ (pu2 w3 F (.int .i64 0) (.int .i64 0))) (nbx n b3 cap3)
  have hPY := hPF.on xb
  have hNY := hNF.below xb
  have gY := alloc_new (pu2 w3 F (.int .i64 0) (.int .i64 0)) (nbx n b3 cap3)
  have esz : (pu2 w3 F (.int .i64 0) (.int .i64 0)).heap.size = w3.heap.size := by simp
  rw [esz] at gY
  refine Lib.hid ?_
  go_wp2_with (go_at_call 14; refine Hid.out ?_)
  obtain ⟨Y, hY⟩ : ∃ Y, ((w3.setCell ⟨F, 0, none⟩ (.int .i64 0)).setCell ⟨F, 1, none⟩ (.int .i64 0)).alloc (.cells #[.int .i64 n.k, .string ⟨n.t.toArray⟩, .int .i64 n.n, .slice b3 n.kids.length cap3] 24) = Y := ⟨_, rfl⟩
  replace hPY : PX w Y := hY ▸ hPY
  replace gY : Y.heap[w3.heap.size]? = some (nbx n b3 cap3) := hY ▸ gY
  replace hNY : NdV (fun g => F + 1 ≤ g) Y n (ndv n b3 cap3) := hY ▸ hNY
  rw [hY]
  have hz4 : w.heap.size + 1 < w3.heap.size := by omega
  obtain ⟨t3, ht3⟩ : ∃ t3, w3.heap.size = t3 := ⟨_, rfl⟩
  rw [ht3] at gY hz4
  rw [ht3]
  clear hY hkF hPF xb k0 k1 l0 l1 s0 s1 s2 s3 n1' n2' n3' n4' n5' n6' esz hNF hN g3 hP3 ht3 hz3
  have hFt := fits_any _ n b3 cap3 Y hNY
  rw [hfit] at hFt
  refine Lib.hid ?_
  go_wp2_with (go_at_call 14; refine hFt.mono ?_; rintro e w5 ⟨rfl, hb5⟩; refine Hid.out ?_)
  have hP5 := hPY.on hb5
  have g5 := block_below hb5 gY
  have hN5 := hNY.below hb5
  clear hFt hPY gY hNY hb5
  obtain ⟨c0, c1, c2, c3, f0, f1, f2, f3⟩ := in4 hP5.g0
  obtain ⟨p0, p1, q0, q1⟩ := in2 hP5.g1
  obtain ⟨x0, x1, x2, x3, y0, y1, y2, y3⟩ := in4 g5
  refine Lib.hid ?_
  go_wp2
  have hkA : Keeps (fun q => q = w.heap.size ∨ q = w.heap.size + 1) w5 (pu2 (put4 w5 w.heap.size (.int .i64 n.k) (sk n.t) (.int .i64 n.n) (.slice b3 n.kids.length cap3)) (w.heap.size + 1) (.int .i64 0) (.int .i64 0)) := ((put4_self _ _ _ _ _ _).mono (fun q _ e => .inl e)).then (pu2_self _ _ _ _) (fun q _ e => .inr e)
  have z1 : (pu2 (put4 w5 w.heap.size (.int .i64 n.k) (sk n.t) (.int .i64 n.n) (.slice b3 n.kids.length cap3)) (w.heap.size + 1) (.int .i64 0) (.int .i64 0)).heap[w.heap.size]? = some (nbx n b3 cap3) := (pu2_other _ _ (by omega)).trans (put4_same _ _ _ _ hP5.g0)
  have z2 : (pu2 (put4 w5 w.heap.size (.int .i64 n.k) (sk n.t) (.int .i64 n.n) (.slice b3 n.kids.length cap3)) (w.heap.size + 1) (.int .i64 0) (.int .i64 0)).heap[w.heap.size + 1]? = some (.cells #[.int .i64 0, .int .i64 0] 27) := pu2_same _ _ ((put4_other _ _ _ _ (by omega)).trans hP5.g1)
  have z3 := ((Keeps.of_below (S := no) hP5.bl).then hkA (fun q hq e => by omega)).below (Nat.le_refl _) (fun _ _ => id)
  refine bodyPost_ret (resP7 rfl rfl z1 z2) rfl ⟨⟨hfit, b3, cap3, rfl, ?_⟩, z3⟩
  exact (hN5.keep hkA (fun q hq _ e => by omega)).weak (fun q hq _ => by omega)
theorem parse_any (s : ByteArray) (w : World) (hE : ErrV w) (hsp : SpTab w) : Calls Tryz.prog 7 #[.string s] w (POut w (parseR s.data.toList)) := by
  unfold parseR
  cases hR : scanAll s.data.toList with
  | inl x =>
    obtain ⟨c, a⟩ := x
    exact parse_bad s c a w hE hR
  | inr ts =>
    obtain ⟨_, _, r, hr⟩ := toks_of hR
    simp only [hr]
    cases r with
    | inl l =>
      have := parse_form s ts l w hE hsp hR hr
      rw [show s.size = s.data.toList.length by simp] at this
      exact this
    | inr p =>
      obtain ⟨n, l⟩ := p
      simp only
      cases hf : fitB n with
      | true => exact parse_prog s ts n l hf w hE hsp hR hr
      | false => exact parse_big s ts n l hf w hE hsp hR hr
end Go.Proofs.YtbofdfdmikhanaaGreatDoor
namespace Go.Proofs.YtbofdfdmikhanaaGreatDoor
open Go.RowKit
open Go

set_option maxRecDepth 20000 in
set_option maxHeartbeats 1000000 in
theorem parses_of (s : ByteArray) (w : World) (n : Nd) (c a : Int) (hm : manyN n ≤ 600) (h7 : ∀ u, Below w.heap.size w u → Calls Tryz.prog 7 #[.string s] u fun e w' => ∃ b cap, e = .returned (.tuple #[ndv n b cap, .agg #[.int .i64 c, .int .i64 a]]) ∧ NdV (fun g => u.heap.size ≤ g) w' n (ndv n b cap) ∧ Below u.heap.size u w') (h8 : ∀ u, Calls Tryz.prog 8 #[.string s] u fun e w' => ∃ b cap, e = .returned (.tuple #[ndv n b cap, .agg #[.int .i64 c, .int .i64 a]]) ∧ NdV (fun g => u.heap.size ≤ g) w' n (ndv n b cap) ∧ Below u.heap.size u w') : Calls Tryz.prog 3 #[.string s] w fun e w' => e = .returned (.bool true) ∧ Below w.heap.size w w' := by
  go_enter Tryz.func3, Tryz.ntmps3
  go_wp2_with (first | (go_at_call 7; refine (h7 _ (Below.refl _ _)).mono ?_; rintro e w1 ⟨b1, cap1, rfl, hN1, hb1⟩) | (go_at_call 8; refine (h8 _).mono ?_; rintro e w2 ⟨b2, cap2, rfl, hN2, hb2⟩; refine Hid.out ?_))
  have g1 := block_below hb2 (new2 w1 (nbx n b1 cap1) (.cells #[.int .i64 c, .int .i64 a] 27)).1
  have g2 := block_below hb2 (new2 w1 (nbx n b1 cap1) (.cells #[.int .i64 c, .int .i64 a] 27)).2
  have hN1' := (hN1.below (below2 w1 (nbx n b1 cap1) (.cells #[.int .i64 c, .int .i64 a] 27))).below hb2
  have hbw := ext_trans (ext_trans hb1 (below2 w1 (nbx n b1 cap1) (.cells #[.int .i64 c, .int .i64 a] 27))) hb2
  obtain ⟨g3, g4⟩ := new2 w2 (nbx n b2 cap2) (.cells #[.int .i64 c, .int .i64 a] 27)
  have hbv := below2 w2 (nbx n b2 cap2) (.cells #[.int .i64 c, .int .i64 a] 27)
  have g1' := block_below hbv g1
  have g2' := block_below hbv g2
  have hM1 := hN1'.below hbv
  have hM2 := hN2.below hbv
  have hbV := ext_trans hbw hbv
  obtain ⟨V, hV⟩ : ∃ V, (w2.alloc (nbx n b2 cap2)).alloc (.cells #[.int .i64 c, .int .i64 a] 27) = V := ⟨_, rfl⟩
  rw [hV] at g3 g4 g1' g2' hM1 hM2 hbV
  replace hV : (w2.alloc (.cells #[.int .i64 n.k, sk n.t, .int .i64 n.n, .slice b2 n.kids.length cap2] 24)).alloc (.cells #[.int .i64 c, .int .i64 a] 27) = V := hV
  obtain ⟨c0, c1, c2, c3, f0, f1, f2, f3⟩ := in4 g1'
  obtain ⟨d0, d1, d2, d3, e0, e1, e2, e3⟩ := in4 g3
  obtain ⟨p0, p1, q0, q1⟩ := in2 g2'
  obtain ⟨r0, r1, t0, t1⟩ := in2 g4
  clear hN1 hN2 hN1' hb1 hb2 hbw hbv g1 g2 h7 h8
  refine Lib.hid ?_
  go_wp2_with (go_at_call 9; refine (same_any n _ _ b1 b2 cap1 cap2 V hm hM1 hM2).mono ?_; rintro e w5 ⟨rfl, hb5⟩)
  go_ret
  exact ⟨rfl, ext_trans hbV hb5⟩
theorem pout_fault {w : World} {s : ByteArray} {k : Nat} {c : Int} {a : Nat} (h : Calls Tryz.prog k #[.string s] w (POut w (.inl (c, a)))) : Calls Tryz.prog k #[.string s] w fun e w' => ∃ b cap, e = .returned (.tuple #[ndv nil0 b cap, .agg #[.int .i64 c, .int .i64 (a : Nat)]]) ∧ NdV (fun g => w.heap.size ≤ g) w' nil0 (ndv nil0 b cap) ∧ Below w.heap.size w w' :=
  h.mono fun _ w' h => ⟨none, 0, h.1, ndV_leaf _ w' 0 [] 0, h.2⟩
theorem pout_node {w : World} {s : ByteArray} {k : Nat} {n : Nd} (h : Calls Tryz.prog k #[.string s] w (POut w (.inr n))) : Calls Tryz.prog k #[.string s] w fun e w' => ∃ b cap, e = .returned (.tuple #[ndv n b cap, .agg #[.int .i64 0, .int .i64 0]]) ∧ NdV (fun g => w.heap.size ≤ g) w' n (ndv n b cap) ∧ Below w.heap.size w w' :=
  h.mono fun _ w' h => by
    obtain ⟨⟨_, b, cap, h1, h2⟩, h3⟩ := h
    exact ⟨b, cap, h1, h2, h3⟩
theorem parse_fit {l : List UInt8} {n : Nd} (h : parseR l = .inr n) : fitB n = true := by
  unfold parseR at h
  split at h
  · cases h
  · split at h
    · cases h
    · cases h
    · rename_i m _ _
      cases hf : fitB m with
      | true => rw [hf, if_pos rfl] at h; cases h; exact hf
      | false => rw [hf, if_neg (by decide)] at h; cases h
theorem parses_any (s : ByteArray) (w : World) (hE : ErrV w) (hsp : SpTab w) : Calls Tryz.prog 3 #[.string s] w fun e w' => e = .returned (.bool true) ∧ Below w.heap.size w w' := by
  have h7 := fun u (hb : Below w.heap.size w u) => parse_any s u (hE.on hb) (hsp.below hb)
  have h8 := fun u => rparse_any s u
  cases hR : parseR s.data.toList with
  | inl x =>
    obtain ⟨c, a⟩ := x
    rw [hR] at h7 h8
    exact parses_of s w nil0 c a (by decide) (fun u hb => pout_fault (h7 u hb)) (fun u => pout_fault (h8 u))
  | inr n =>
    have hf := parse_fit hR
    rw [hR] at h7 h8
    unfold fitB at hf
    exact parses_of s w n 0 0 (of_decide_eq_true hf).2 (fun u hb => pout_node (h7 u hb)) (fun u => pout_node (h8 u))
end Go.Proofs.YtbofdfdmikhanaaGreatDoor
