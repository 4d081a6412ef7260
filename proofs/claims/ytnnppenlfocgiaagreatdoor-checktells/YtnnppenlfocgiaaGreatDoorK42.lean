/- The program's Parse. The program's Parse: a program. The program's Check and Slots. The program's Check; its Slots. -/
import Derived.Test.YtnnppenlfocgiaaGreatDoorK38
import Derived.Test.YtnnppenlfocgiaaGreatDoorK11
import Derived.Test.YtnnppenlfocgiaaGreatDoorK41
namespace Go.Proofs.YtnnppenlfocgiaaGreatDoor
open Go.RowKit
open Go

theorem resP7 {tm : Array Value} {W : World} {B C : Nat} {a b c d x y : Value} (h : tm[2]?.getD undef = .pointer (some ⟨B, 0, none⟩)) (h' : tm[3]?.getD undef = .pointer (some ⟨C, 0, none⟩)) (hx : W.heap[B]? = some (.cells #[a, b, c, d] 24)) (hy : W.heap[C]? = some (.cells #[x, y] 27)) : (results Tryz.f14 tm).run Tryz.prog W = .ok (.tuple #[.agg #[a, b, c, d], .agg #[x, y]]) W := by
  obtain ⟨c0, c1, c2, c3, _, _, _, _⟩ := in4 hx
  have d0 : W.cell? ⟨C, 0, none⟩ = some x := cell_block hy rfl
  have d1 : W.cell? ⟨C, 1, none⟩ = some y := cell_block hy rfl
  simp [results, Tryz.results14, go_sem, h, h', c0, c1, c2, c3, d0, d1]
/-- The boxes of the two results. -/
structure PX (w W : World) : Prop where
  g0 : W.heap[w.heap.size]? = some zbx
  g1 : W.heap[w.heap.size + 1]? = some (.cells #[.int .i64 0, .int .i64 0] 27)
  bl : Below w.heap.size w W
theorem PX.on {w W W' : World} (h : PX w W) (hb : Below W.heap.size W W') : PX w W' := ⟨block_below hb h.g0, block_below hb h.g1, ext_trans h.bl hb⟩
theorem px_new (w : World) : PX w ((w.alloc zbx).alloc (.cells #[.int .i64 0, .int .i64 0] 27)) := by
  have h0 := alloc_new w zbx
  have h1 := alloc_new (w.alloc zbx) (.cells #[.int .i64 0, .int .i64 0] 27)
  rw [World.size_alloc] at h1
  exact ⟨block_alloc _ h0, h1, ext_alloc (ext_alloc (Below.refl _ _) _) _⟩
/-- A result that is a fault. -/
theorem px_fault {w W : World} (h : PX w W) (c : Int) (a : Nat) {X : World} (hX : (((((W.setCell ⟨w.heap.size, 0, none⟩ (.int .i64 0)).setCell ⟨w.heap.size, 1, none⟩ (.string ⟨#[]⟩)).setCell ⟨w.heap.size, 2, none⟩ (.int .i64 0)).setCell ⟨w.heap.size, 3, none⟩ (.slice none 0 0)).setCell ⟨w.heap.size + 1, 0, none⟩ (.int .i64 c)).setCell ⟨w.heap.size + 1, 1, none⟩ (.int .i64 (a : Nat)) = X) : X.heap[w.heap.size]? = some zbx ∧ X.heap[w.heap.size + 1]? = some (.cells #[.int .i64 c, .int .i64 (a : Nat)] 27) ∧ Below w.heap.size w X := by
  have hX' : pu2 (put4 W w.heap.size (.int .i64 0) (sk []) (.int .i64 0) (.slice none 0 0)) (w.heap.size + 1) (.int .i64 c) (.int .i64 (a : Nat)) = X := hX
  subst hX'
  refine ⟨(pu2_other _ _ (by omega)).trans (put4_same _ _ _ _ h.g0), pu2_same _ _ ((put4_other _ _ _ _ (by omega)).trans h.g1), ?_⟩
  exact (((Keeps.of_below (S := no) h.bl).then (put4_self _ _ _ _ _ _) (fun q hq e => by omega)).then (pu2_self _ _ _ _) (fun q hq e => by omega)).below (Nat.le_refl _) (fun _ _ => id)
set_option maxRecDepth 20000 in
set_option maxHeartbeats 1000000 in
theorem parse_bad (s : ByteArray) (c : Int) (a : Nat) (w : World) (hE : ErrV w) (hR : scanAll s.data.toList = .inl (c, a)) : Calls Tryz.prog 14 #[.string s] w (POut w (.inl (c, a))) := by
  have hc := code_of hR
  have hq : (c == 0) = false := by simpa using hc
  have hPX := px_new w
  have hS : Calls Tryz.prog 21 #[.string s] ((w.alloc zbx).alloc (.cells #[.int .i64 0, .int .i64 0] 27)) fun e w' => (∃ b n d, e = .returned (.tuple #[.slice b n d, .agg #[.int .i64 c, .int .i64 (a : Nat)]])) ∧ Below ((w.alloc zbx).alloc (.cells #[.int .i64 0, .int .i64 0] 27)).heap.size ((w.alloc zbx).alloc (.cells #[.int .i64 0, .int .i64 0] 27)) w' := (scan_any s _ (hE.on hPX.bl)).mono fun e w' h => by
    rw [hR] at h
    obtain ⟨⟨b, n, d, h1, _⟩, h2⟩ := h
    exact ⟨⟨b, n, d, h1⟩, h2⟩
  clear hR
  go_enter Tryz.func14, Tryz.ntmps14
  go_wp2_with (go_at_call 21; refine hS.mono ?_; rintro e w1 ⟨⟨b1, n1, d1, rfl⟩, hb1⟩; refine Hid.out ?_)
  have hP1 := hPX.on hb1
  have hP2 := hP1.on (ext_alloc (Below.refl _ _) (.cells #[.int .i64 c, .int .i64 (a : Nat)] 27))
  obtain ⟨c0, c1, c2, c3, f0, f1, f2, f3⟩ := in4 hP1.g0
  obtain ⟨x0, x1, x2, x3, y0, y1, y2, y3⟩ := in4a hP1.g0
  obtain ⟨p0, p1, q0, q1⟩ := in2 hP1.g1
  have r0 := fun o => (in2 (block_alloc o hP1.g1)).c0
  have r1 := fun o => (in2 (block_alloc o hP1.g1)).c1
  have r2 := fun o => (in2 (block_alloc o hP1.g1)).f0
  have r3 := fun o => (in2 (block_alloc o hP1.g1)).f1
  have hz := block_lt hP1.g1
  have n1' : ¬ w.heap.size = w1.heap.size := by omega
  have n2' : ¬ w1.heap.size = w.heap.size := by omega
  have n3' : ¬ w.heap.size + 1 = w1.heap.size := by omega
  have n4' : ¬ w1.heap.size = w.heap.size + 1 := by omega
  refine Lib.hid ?_
  go_wp2
  go_region_with (fail)
  all_goals
    go_wp2
    obtain ⟨X, hX⟩ : ∃ X, ((((((w1.alloc (.cells #[.int .i64 c, .int .i64 (a : Nat)] 27)).setCell ⟨w.heap.size, 0, none⟩ (.int .i64 0)).setCell ⟨w.heap.size, 1, none⟩ (.string ⟨#[]⟩)).setCell ⟨w.heap.size, 2, none⟩ (.int .i64 0)).setCell ⟨w.heap.size, 3, none⟩ (.slice none 0 0)).setCell ⟨w.heap.size + 1, 0, none⟩ (.int .i64 c)).setCell ⟨w.heap.size + 1, 1, none⟩ (.int .i64 (a : Nat)) = X := ⟨_, rfl⟩
    obtain ⟨z1, z2, z3⟩ := px_fault hP2 c a hX
    rw [hX]
    clear hX
    exact bodyPost_ret (resP7 (W := X.drew) rfl rfl z1 z2) rfl ⟨rfl, z3.drew⟩
set_option maxRecDepth 20000 in
set_option maxHeartbeats 1000000 in
theorem parse_form (s : ByteArray) (ts : List Tok) (l : List PT) (w : World) (hE : ErrV w) (hsp : SpTab w) (hR : scanAll s.data.toList = .inr ts) (hP : P 64012 12 (nd 1 []) 0 (ts.map pt) = some (.inl l)) : Calls Tryz.prog 14 #[.string s] w (POut w (.inl (2, fpos ts s.size (ts.length - l.length)))) := by
  obtain ⟨hlen, hV, _⟩ := toks_of hR
  have hPX := px_new w
  have hS : Calls Tryz.prog 21 #[.string s] ((w.alloc zbx).alloc (.cells #[.int .i64 0, .int .i64 0] 27)) fun e w' => (∃ b d, e = .returned (.tuple #[.slice b ts.length d, .agg #[.int .i64 0, .int .i64 0]]) ∧ ts.length ≤ d ∧ TokAt w' b ts w'.heap.size) ∧ Below ((w.alloc zbx).alloc (.cells #[.int .i64 0, .int .i64 0] 27)).heap.size ((w.alloc zbx).alloc (.cells #[.int .i64 0, .int .i64 0] 27)) w' := (scan_any s _ (hE.on hPX.bl)).mono fun e w' h => by
    rw [hR] at h
    obtain ⟨⟨b, n, d, h1, h3⟩, h2⟩ := h
    obtain ⟨rfl, h4, h5⟩ := tokAt_of h3
    exact ⟨⟨b, d, h1, h4, h5⟩, h2⟩
  have hx : ∀ i, rest ts i = l → i ≤ ts.length → i = ts.length - l.length := fun i h1 h2 => by
    have := rest_len ts i
    rw [h1] at this
    omega
  clear hR
  obtain ⟨L, hL⟩ : ∃ L, ts.length = L := ⟨_, rfl⟩
  rw [hL] at hS
  go_enter Tryz.func14, Tryz.ntmps14
  go_wp2_with (first | (go_at_call 21; refine hS.mono ?_; rintro e w1 ⟨⟨b1, d1, rfl, hd1, hT1⟩, hb1⟩) | (go_at_call 22; refine Hid.out ?_))
  have hP1 := hPX.on hb1
  have hb2 := ext_alloc (Below.refl w1.heap.size w1) (.cells #[.int .i64 0, .int .i64 0] 27)
  have hP2 := hP1.on hb2
  have hRd := read_no ts b1 d1 s.size l (w1.alloc (.cells #[.int .i64 0, .int .i64 0] 27)) hV ((hT1.below hb2).mono (by simp)) (hsp.below hP2.bl) hlen (by omega) hP
  rw [hL] at hRd
  have g2 := alloc_new w1 (.cells #[.int .i64 0, .int .i64 0] 27)
  have hz := block_lt hP1.g1
  refine Lib.hid ?_
  go_wp2_with (go_at_call 22; refine hRd.mono ?_; rintro e w3 ⟨i, hi, hle, rfl, hb3⟩; refine Hid.out ?_)
  have hP3 := hP2.on hb3
  have g3 := block_below hb3 g2
  obtain ⟨v, hv⟩ : ∃ v, fpos ts s.size i = v := ⟨_, rfl⟩
  obtain rfl := hx i hi (by omega)
  obtain ⟨F, hF⟩ : ∃ F, w1.heap.size = F := ⟨_, rfl⟩
  rw [hF] at g3 hz
  rw [hv, hF]
  have hz3 := block_lt g3
  clear hRd hi hx hF hS hb2 hb3 hP1 hP2 hT1 g2
  replace hv : Hid _ := hv
  obtain ⟨c0, c1, c2, c3, f0, f1, f2, f3⟩ := in4 hP3.g0
  obtain ⟨x0, x1, x2, x3, y0, y1, y2, y3⟩ := in4a hP3.g0
  obtain ⟨p0, p1, q0, q1⟩ := in2 hP3.g1
  obtain ⟨k0, k1, l0, l1⟩ := in2 g3
  have r0 := fun o => (in2 (block_alloc o hP3.g1)).c0
  have r1 := fun o => (in2 (block_alloc o hP3.g1)).c1
  have r2 := fun o => (in2 (block_alloc o hP3.g1)).f0
  have r3 := fun o => (in2 (block_alloc o hP3.g1)).f1
  have s0 := fun o => (in2 (block_alloc o g3)).c0
  have s1 := fun o => (in2 (block_alloc o g3)).c1
  have s2 := fun o => (in2 (block_alloc o g3)).f0
  have s3 := fun o => (in2 (block_alloc o g3)).f1
  have n1' : ¬ w.heap.size = F := by omega
  have n2' : ¬ F = w.heap.size := by omega
  have n3' : ¬ w.heap.size + 1 = F := by omega
  have n4' : ¬ F = w.heap.size + 1 := by omega
  have n5' : ¬ F = w3.heap.size := by omega
  have n6' : ¬ w3.heap.size = F := by omega
  have n7' : ¬ w.heap.size = w3.heap.size := by omega
  have n8' : ¬ w.heap.size + 1 = w3.heap.size := by omega
  have hkF : Keeps (fun q => q = F) w3 (pu2 w3 F (.int .i64 2) (.int .i64 (v : Nat))) := pu2_self _ _ _ _
  have hPF : PX w (pu2 w3 F (.int .i64 2) (.int .i64 (v : Nat))) := ⟨hkF.box hP3.g0 (by omega), hkF.box hP3.g1 (by omega), ((Keeps.of_below (S := no) hP3.bl).then hkF (fun q hq e => by omega)).below (Nat.le_refl _) (fun _ _ => id)⟩
  have gF := pu2_same (.int .i64 2) (.int .i64 (v : Nat)) g3
  have xb := ext_alloc (Below.refl _ (pu2 w3 F (.int .i64 2) (.int .i64 (v : Nat)))) zbx
  have hPY := hPF.on xb
  have gY := block_below xb gF
  refine Lib.hid ?_
  go_wp2
  obtain ⟨Y, hY⟩ : ∃ Y, ((w3.setCell ⟨F, 0, none⟩ (.int .i64 2)).setCell ⟨F, 1, none⟩ (.int .i64 (v : Nat))).alloc (.cells #[.int .i64 0, .string ⟨#[]⟩, .int .i64 0, .slice none 0 0] 24) = Y := ⟨_, rfl⟩
  rw [hY]
  replace hPY : PX w Y := hY ▸ hPY
  replace gY : Y.heap[F]? = some (.cells #[.int .i64 2, .int .i64 (v : Nat)] 27) := hY ▸ gY
  clear hY hkF hPF gF xb k0 k1 l0 l1 s0 s1 s2 s3 c0 c1 c2 c3 f0 f1 f2 f3 p0 p1 q0 q1 r0 r1 r2 r3 x0 x1 x2 x3 y0 y1 y2 y3
  obtain ⟨c0, c1, c2, c3, f0, f1, f2, f3⟩ := in4 hPY.g0
  obtain ⟨p0, p1, q0, q1⟩ := in2 hPY.g1
  obtain ⟨k0, k1, l0, l1⟩ := in2 gY
  go_region_with (fail)
  all_goals
    go_wp2
    obtain ⟨X, hX⟩ : ∃ X, (((((Y.setCell ⟨w.heap.size, 0, none⟩ (.int .i64 0)).setCell ⟨w.heap.size, 1, none⟩ (.string ⟨#[]⟩)).setCell ⟨w.heap.size, 2, none⟩ (.int .i64 0)).setCell ⟨w.heap.size, 3, none⟩ (.slice none 0 0)).setCell ⟨w.heap.size + 1, 0, none⟩ (.int .i64 2)).setCell ⟨w.heap.size + 1, 1, none⟩ (.int .i64 (v : Nat)) = X := ⟨_, rfl⟩
    obtain ⟨z1, z2, z3⟩ := px_fault hPY 2 v hX
    rw [hX]
    clear hX
    exact bodyPost_ret (resP7 (W := X.drew) rfl rfl z1 z2) rfl ⟨by rw [hv.out], z3.drew⟩
end Go.Proofs.YtnnppenlfocgiaaGreatDoor
namespace Go.Proofs.YtnnppenlfocgiaaGreatDoor
open Go.RowKit
open Go

set_option maxRecDepth 20000 in
set_option maxHeartbeats 1000000 in
theorem parse_big (s : ByteArray) (ts : List Tok) (n : Nd) (l : List PT) (hfit : fitB n = false) (w : World) (hE : ErrV w) (hsp : SpTab w) (hR : scanAll s.data.toList = .inr ts) (hP : P 64012 12 (nd 1 []) 0 (ts.map pt) = some (.inr (n, l))) : Calls Tryz.prog 14 #[.string s] w (POut w (.inl (1, 0))) := by
  obtain ⟨hlen, hV, _⟩ := toks_of hR
  have hPX := px_new w
  have hS : Calls Tryz.prog 21 #[.string s] ((w.alloc zbx).alloc (.cells #[.int .i64 0, .int .i64 0] 27)) fun e w' => (∃ b d, e = .returned (.tuple #[.slice b ts.length d, .agg #[.int .i64 0, .int .i64 0]]) ∧ ts.length ≤ d ∧ TokAt w' b ts w'.heap.size) ∧ Below ((w.alloc zbx).alloc (.cells #[.int .i64 0, .int .i64 0] 27)).heap.size ((w.alloc zbx).alloc (.cells #[.int .i64 0, .int .i64 0] 27)) w' := (scan_any s _ (hE.on hPX.bl)).mono fun e w' h => by
    rw [hR] at h
    obtain ⟨⟨b, n, d, h1, h3⟩, h2⟩ := h
    obtain ⟨rfl, h4, h5⟩ := tokAt_of h3
    exact ⟨⟨b, d, h1, h4, h5⟩, h2⟩
  clear hR
  obtain ⟨L, hL⟩ : ∃ L, ts.length = L := ⟨_, rfl⟩
  rw [hL] at hS
  go_enter Tryz.func14, Tryz.ntmps14
  go_wp2_with (first | (go_at_call 21; refine hS.mono ?_; rintro e w1 ⟨⟨b1, d1, rfl, hd1, hT1⟩, hb1⟩) | (go_at_call 22; refine Hid.out ?_))
  have hP1 := hPX.on hb1
  have hb2 := ext_alloc (Below.refl w1.heap.size w1) (.cells #[.int .i64 0, .int .i64 0] 27)
  have hP2 := hP1.on hb2
  have hRd := read_ok ts b1 d1 s.size n l (w1.alloc (.cells #[.int .i64 0, .int .i64 0] 27)) hV ((hT1.below hb2).mono (by simp)) (hsp.below hP2.bl) hlen (by omega) hP
  rw [hL] at hRd
  have g2 := alloc_new w1 (.cells #[.int .i64 0, .int .i64 0] 27)
  have hz := block_lt hP1.g1
  refine Lib.hid ?_
  go_wp2_with (go_at_call 22; refine hRd.mono ?_; rintro e w3 ⟨b3, cap3, rfl, hN, hb3⟩; refine Hid.out ?_)
  have hP3 := hP2.on hb3
  have g3 := block_below hb3 g2
  rw [World.size_alloc] at hN
  obtain ⟨F, hF⟩ : ∃ F, w1.heap.size = F := ⟨_, rfl⟩
  rw [hF] at g3 hz hN
  rw [hF]
  have hz3 := block_lt g3
  clear hRd hF hS hb2 hb3 hP1 hP2 hT1 g2
  obtain ⟨k0, k1, l0, l1⟩ := in2 g3
  have s0 := fun o => (in2 (block_alloc o g3)).c0
  have s1 := fun o => (in2 (block_alloc o g3)).c1
  have s2 := fun o => (in2 (block_alloc o g3)).f0
  have s3 := fun o => (in2 (block_alloc o g3)).f1
  have n1' : ¬ w.heap.size = F := by omega
  have n2' : ¬ F = w.heap.size := by omega
  have n3' : ¬ w.heap.size + 1 = F := by omega
  have n4' : ¬ F = w.heap.size + 1 := by omega
  have n5' : ¬ F = w3.heap.size := by omega
  have n6' : ¬ w3.heap.size = F := by omega
  have hkF : Keeps (fun q => q = F) w3 (pu2 w3 F (.int .i64 0) (.int .i64 0)) := pu2_self _ _ _ _
  have hPF : PX w (pu2 w3 F (.int .i64 0) (.int .i64 0)) := ⟨hkF.box hP3.g0 (by omega), hkF.box hP3.g1 (by omega), ((Keeps.of_below (S := no) hP3.bl).then hkF (fun q hq e => by omega)).below (Nat.le_refl _) (fun _ _ => id)⟩
  have hNF := hN.keep hkF (fun q hq _ e => by omega)
  have xb := ext_alloc (Below.refl _ (pu2 w3 F (.int .i64 0) (.int .i64 0))) (nbx n b3 cap3)
  have hPY := hPF.on xb
  have hNY := hNF.below xb
  have gY := alloc_new (pu2 w3 F (.int .i64 0) (.int .i64 0)) (nbx n b3 cap3)
  have esz : (pu2 w3 F (.int .i64 0) (.int .i64 0)).heap.size = w3.heap.size := by simp
  rw [esz] at gY
  refine Lib.hid ?_
  go_wp2_with (go_at_call 23; refine Hid.out ?_)
  obtain ⟨Y, hY⟩ : ∃ Y, ((w3.setCell ⟨F, 0, none⟩ (.int .i64 0)).setCell ⟨F, 1, none⟩ (.int .i64 0)).alloc (.cells #[.int .i64 n.k, .string ⟨n.t.toArray⟩, .int .i64 n.n, .slice b3 n.kids.length cap3] 24) = Y := ⟨_, rfl⟩
  replace hPY : PX w Y := hY ▸ hPY
  replace gY : Y.heap[w3.heap.size]? = some (nbx n b3 cap3) := hY ▸ gY
  replace hNY : NdV (fun g => F + 1 ≤ g) Y n (ndv n b3 cap3) := hY ▸ hNY
  rw [hY]
  have hz4 : w.heap.size + 1 < w3.heap.size := by omega
  obtain ⟨t3, ht3⟩ : ∃ t3, w3.heap.size = t3 := ⟨_, rfl⟩
  rw [ht3] at gY hz4
  rw [ht3]
  clear hY hkF hPF xb k0 k1 l0 l1 s0 s1 s2 s3 n1' n2' n3' n4' n5' n6' esz hNF hN g3 hP3 ht3 hz3
  have hFt := fits_any _ n b3 cap3 Y hNY
  rw [hfit] at hFt
  refine Lib.hid ?_
  go_wp2_with (go_at_call 23; refine hFt.mono ?_; rintro e w5 ⟨rfl, hb5⟩; refine Hid.out ?_)
  have hP5 := hPY.on hb5
  have g5 := block_below hb5 gY
  have hN5 := hNY.below hb5
  clear hFt hPY gY hNY hb5
  obtain ⟨c0, c1, c2, c3, f0, f1, f2, f3⟩ := in4 hP5.g0
  obtain ⟨p0, p1, q0, q1⟩ := in2 hP5.g1
  obtain ⟨x0, x1, x2, x3, y0, y1, y2, y3⟩ := in4 g5
  refine Lib.hid ?_
  go_wp2
  obtain ⟨X, hX⟩ : ∃ X, (((((w5.setCell ⟨w.heap.size, 0, none⟩ (.int .i64 0)).setCell ⟨w.heap.size, 1, none⟩ (.string ⟨#[]⟩)).setCell ⟨w.heap.size, 2, none⟩ (.int .i64 0)).setCell ⟨w.heap.size, 3, none⟩ (.slice none 0 0)).setCell ⟨w.heap.size + 1, 0, none⟩ (.int .i64 1)).setCell ⟨w.heap.size + 1, 1, none⟩ (.int .i64 0) = X := ⟨_, rfl⟩
  obtain ⟨z1, z2, z3⟩ := px_fault hP5 1 0 hX
  rw [hX]
  clear hX
  exact bodyPost_ret (resP7 rfl rfl z1 z2) rfl ⟨rfl, z3⟩
set_option maxRecDepth 20000 in
set_option maxHeartbeats 1000000 in
theorem parse_prog (s : ByteArray) (ts : List Tok) (n : Nd) (l : List PT) (hfit : fitB n = true) (w : World) (hE : ErrV w) (hsp : SpTab w) (hR : scanAll s.data.toList = .inr ts) (hP : P 64012 12 (nd 1 []) 0 (ts.map pt) = some (.inr (n, l))) : Calls Tryz.prog 14 #[.string s] w (POut w (.inr n)) := by
  obtain ⟨hlen, hV, _⟩ := toks_of hR
  have hPX := px_new w
  have hS : Calls Tryz.prog 21 #[.string s] ((w.alloc zbx).alloc (.cells #[.int .i64 0, .int .i64 0] 27)) fun e w' => (∃ b d, e = .returned (.tuple #[.slice b ts.length d, .agg #[.int .i64 0, .int .i64 0]]) ∧ ts.length ≤ d ∧ TokAt w' b ts w'.heap.size) ∧ Below ((w.alloc zbx).alloc (.cells #[.int .i64 0, .int .i64 0] 27)).heap.size ((w.alloc zbx).alloc (.cells #[.int .i64 0, .int .i64 0] 27)) w' := (scan_any s _ (hE.on hPX.bl)).mono fun e w' h => by
    rw [hR] at h
    obtain ⟨⟨b, n, d, h1, h3⟩, h2⟩ := h
    obtain ⟨rfl, h4, h5⟩ := tokAt_of h3
    exact ⟨⟨b, d, h1, h4, h5⟩, h2⟩
  clear hR
  obtain ⟨L, hL⟩ : ∃ L, ts.length = L := ⟨_, rfl⟩
  rw [hL] at hS
  go_enter Tryz.func14, Tryz.ntmps14
  go_wp2_with (first | (go_at_call 21; refine hS.mono ?_; rintro e w1 ⟨⟨b1, d1, rfl, hd1, hT1⟩, hb1⟩) | (go_at_call 22; refine Hid.out ?_))
  have hP1 := hPX.on hb1
  have hb2 := ext_alloc (Below.refl w1.heap.size w1) (.cells #[.int .i64 0, .int .i64 0] 27)
  have hP2 := hP1.on hb2
  have hRd := read_ok ts b1 d1 s.size n l (w1.alloc (.cells #[.int .i64 0, .int .i64 0] 27)) hV ((hT1.below hb2).mono (by simp)) (hsp.below hP2.bl) hlen (by omega) hP
  rw [hL] at hRd
  have g2 := alloc_new w1 (.cells #[.int .i64 0, .int .i64 0] 27)
  have hz := block_lt hP1.g1
  refine Lib.hid ?_
  go_wp2_with (go_at_call 22; refine hRd.mono ?_; rintro e w3 ⟨b3, cap3, rfl, hN, hb3⟩; refine Hid.out ?_)
  have hP3 := hP2.on hb3
  have g3 := block_below hb3 g2
  rw [World.size_alloc] at hN
  obtain ⟨F, hF⟩ : ∃ F, w1.heap.size = F := ⟨_, rfl⟩
  rw [hF] at g3 hz hN
  rw [hF]
  have hz3 := block_lt g3
  clear hRd hF hS hb2 hb3 hP1 hP2 hT1 g2
  obtain ⟨k0, k1, l0, l1⟩ := in2 g3
  have s0 := fun o => (in2 (block_alloc o g3)).c0
  have s1 := fun o => (in2 (block_alloc o g3)).c1
  have s2 := fun o => (in2 (block_alloc o g3)).f0
  have s3 := fun o => (in2 (block_alloc o g3)).f1
  have n1' : ¬ w.heap.size = F := by omega
  have n2' : ¬ F = w.heap.size := by omega
  have n3' : ¬ w.heap.size + 1 = F := by omega
  have n4' : ¬ F = w.heap.size + 1 := by omega
  have n5' : ¬ F = w3.heap.size := by omega
  have n6' : ¬ w3.heap.size = F := by omega
  have hkF : Keeps (fun q => q = F) w3 (pu2 w3 F (.int .i64 0) (.int .i64 0)) := pu2_self _ _ _ _
  have hPF : PX w (pu2 w3 F (.int .i64 0) (.int .i64 0)) := ⟨hkF.box hP3.g0 (by omega), hkF.box hP3.g1 (by omega), ((Keeps.of_below (S := no) hP3.bl).then hkF (fun q hq e => by omega)).below (Nat.le_refl _) (fun _ _ => id)⟩
  have hNF := hN.keep hkF (fun q hq _ e => by omega)
  have xb := ext_alloc (Below.refl _ (pu2 w3 F (.int .i64 0) (.int .i64 0))) (nbx n b3 cap3)
  have hPY := hPF.on xb
  have hNY := hNF.below xb
  have gY := alloc_new (pu2 w3 F (.int .i64 0) (.int .i64 0)) (nbx n b3 cap3)
  have esz : (pu2 w3 F (.int .i64 0) (.int .i64 0)).heap.size = w3.heap.size := by simp
  rw [esz] at gY
  refine Lib.hid ?_
  go_wp2_with (go_at_call 23; refine Hid.out ?_)
  obtain ⟨Y, hY⟩ : ∃ Y, ((w3.setCell ⟨F, 0, none⟩ (.int .i64 0)).setCell ⟨F, 1, none⟩ (.int .i64 0)).alloc (.cells #[.int .i64 n.k, .string ⟨n.t.toArray⟩, .int .i64 n.n, .slice b3 n.kids.length cap3] 24) = Y := ⟨_, rfl⟩
  replace hPY : PX w Y := hY ▸ hPY
  replace gY : Y.heap[w3.heap.size]? = some (nbx n b3 cap3) := hY ▸ gY
  replace hNY : NdV (fun g => F + 1 ≤ g) Y n (ndv n b3 cap3) := hY ▸ hNY
  rw [hY]
  have hz4 : w.heap.size + 1 < w3.heap.size := by omega
  obtain ⟨t3, ht3⟩ : ∃ t3, w3.heap.size = t3 := ⟨_, rfl⟩
  rw [ht3] at gY hz4
  rw [ht3]
  clear hY hkF hPF xb k0 k1 l0 l1 s0 s1 s2 s3 n1' n2' n3' n4' n5' n6' esz hNF hN g3 hP3 ht3 hz3
  have hFt := fits_any _ n b3 cap3 Y hNY
  rw [hfit] at hFt
  refine Lib.hid ?_
  go_wp2_with (go_at_call 23; refine hFt.mono ?_; rintro e w5 ⟨rfl, hb5⟩; refine Hid.out ?_)
  have hP5 := hPY.on hb5
  have g5 := block_below hb5 gY
  have hN5 := hNY.below hb5
  clear hFt hPY gY hNY hb5
  obtain ⟨c0, c1, c2, c3, f0, f1, f2, f3⟩ := in4 hP5.g0
  obtain ⟨p0, p1, q0, q1⟩ := in2 hP5.g1
  obtain ⟨x0, x1, x2, x3, y0, y1, y2, y3⟩ := in4 g5
  refine Lib.hid ?_
  go_wp2
  have hkA : Keeps (fun q => q = w.heap.size ∨ q = w.heap.size + 1) w5 (pu2 (put4 w5 w.heap.size (.int .i64 n.k) (sk n.t) (.int .i64 n.n) (.slice b3 n.kids.length cap3)) (w.heap.size + 1) (.int .i64 0) (.int .i64 0)) := ((put4_self _ _ _ _ _ _).mono (fun q _ e => .inl e)).then (pu2_self _ _ _ _) (fun q _ e => .inr e)
  have z1 : (pu2 (put4 w5 w.heap.size (.int .i64 n.k) (sk n.t) (.int .i64 n.n) (.slice b3 n.kids.length cap3)) (w.heap.size + 1) (.int .i64 0) (.int .i64 0)).heap[w.heap.size]? = some (nbx n b3 cap3) := (pu2_other _ _ (by omega)).trans (put4_same _ _ _ _ hP5.g0)
  have z2 : (pu2 (put4 w5 w.heap.size (.int .i64 n.k) (sk n.t) (.int .i64 n.n) (.slice b3 n.kids.length cap3)) (w.heap.size + 1) (.int .i64 0) (.int .i64 0)).heap[w.heap.size + 1]? = some (.cells #[.int .i64 0, .int .i64 0] 27) := pu2_same _ _ ((put4_other _ _ _ _ (by omega)).trans hP5.g1)
  have z3 := ((Keeps.of_below (S := no) hP5.bl).then hkA (fun q hq e => by omega)).below (Nat.le_refl _) (fun _ _ => id)
  refine bodyPost_ret (resP7 rfl rfl z1 z2) rfl ⟨⟨hfit, b3, cap3, rfl, ?_⟩, z3⟩
  exact (hN5.keep hkA (fun q hq _ e => by omega)).weak (fun q hq _ => by omega)
theorem parse_any (s : ByteArray) (w : World) (hE : ErrV w) (hsp : SpTab w) : Calls Tryz.prog 14 #[.string s] w (POut w (parseR s.data.toList)) := by
  unfold parseR
  cases hR : scanAll s.data.toList with
  | inl x =>
    obtain ⟨c, a⟩ := x
    exact parse_bad s c a w hE hR
  | inr ts =>
    obtain ⟨_, _, r, hr⟩ := toks_of hR
    simp only [hr]
    cases r with
    | inl l =>
      have := parse_form s ts l w hE hsp hR hr
      rw [show s.size = s.data.toList.length by simp] at this
      exact this
    | inr p =>
      obtain ⟨n, l⟩ := p
      simp only
      cases hf : fitB n with
      | true => exact parse_prog s ts n l hf w hE hsp hR hr
      | false => exact parse_big s ts n l hf w hE hsp hR hr
end Go.Proofs.YtnnppenlfocgiaaGreatDoor
namespace Go.Proofs.YtnnppenlfocgiaaGreatDoor
open Go.RowKit
open Go

/-- What checked answers. -/
def KOut (w : World) (R : (Int × Nat) ⊕ (Nd × List Int)) (e : Ending) (w' : World) : Prop :=
  (match R with
  | .inl (c, a) => e = .returned (.tuple #[zagg, .slice none 0 0, .agg #[.int .i64 c, .int .i64 (a : Nat)]])
  | .inr (n, sl) => ∃ b cap sb sc, e = .returned (.tuple #[ndv n b cap, .slice sb sl.length sc, .agg #[.int .i64 0, .int .i64 0]]) ∧ NdV (fun g => w.heap.size ≤ g) w' n (ndv n b cap) ∧ SlAt w.heap.size w' sb sl) ∧ Below w.heap.size w w'
theorem res8k {tm : Array Value} {W : World} {B C : Nat} {a b c d v x y : Value} (h : tm[2]?.getD undef = .pointer (some ⟨B, 0, none⟩)) (hv : tm[3]?.getD undef = v) (h' : tm[4]?.getD undef = .pointer (some ⟨C, 0, none⟩)) (hx : W.heap[B]? = some (.cells #[a, b, c, d] 24)) (hy : W.heap[C]? = some (.cells #[x, y] 27)) : (results Tryz.f8 tm).run Tryz.prog W = .ok (.tuple #[.agg #[a, b, c, d], v, .agg #[x, y]]) W := by
  obtain ⟨c0, c1, c2, c3, _, _, _, _⟩ := in4 hx
  have d0 : W.cell? ⟨C, 0, none⟩ = some x := cell_block hy rfl
  have d1 : W.cell? ⟨C, 1, none⟩ = some y := cell_block hy rfl
  subst hv
  simp [results, Tryz.results8, go_sem, h, h', c0, c1, c2, c3, d0, d1]
/-- An answer's two boxes are put. -/
theorem put42 {V : World} {T : Nat} {a b c d x y : Value} (gA : V.heap[T]? = some (.cells #[a, b, c, d] 24)) (gB : V.heap[T + 1]? = some (.cells #[x, y] 27)) (a' b' c' d' x' y' : Value) :
    (pu2 (put4 V T a' b' c' d') (T + 1) x' y').heap[T]? = some (.cells #[a', b', c', d'] 24) ∧ (pu2 (put4 V T a' b' c' d') (T + 1) x' y').heap[T + 1]? = some (.cells #[x', y'] 27) ∧ Keeps (fun q => q = T ∨ q = T + 1) V (pu2 (put4 V T a' b' c' d') (T + 1) x' y') :=
  ⟨(pu2_other _ _ (by omega)).trans (put4_same _ _ _ _ gA), pu2_same _ _ ((put4_other _ _ _ _ (by omega)).trans gB), ((put4_self _ _ _ _ _ _).mono (fun q _ e => .inl e)).then (pu2_self _ _ _ _) (fun q _ e => .inr e)⟩
set_option maxRecDepth 20000 in
set_option maxHeartbeats 2000000 in
theorem checked_fault (s : ByteArray) (w : World) (hE : ErrV w) (hsp : SpTab w) (c : Int) (a : Nat) (hR : parseR s.data.toList = .inl (c, a)) : Calls Tryz.prog 8 #[.string s] w (KOut w (.inl (c, a))) := by
  have hc := parse_code hR
  have hb0 : Below w.heap.size w ((w.alloc zbx).alloc (.cells #[.int .i64 0, .int .i64 0] 27)) := ext_alloc (ext_alloc (Below.refl _ _) _) _
  obtain ⟨U, hU⟩ : ∃ U, (w.alloc zbx).alloc (.cells #[.int .i64 0, .int .i64 0] 27) = U := ⟨_, rfl⟩
  have g0 : U.heap[w.heap.size]? = some zbx := by rw [← hU]; exact block_alloc _ (alloc_new _ _)
  have g1 : U.heap[w.heap.size + 1]? = some (.cells #[.int .i64 0, .int .i64 0] 27) := by
    have := alloc_new (w.alloc zbx) (.cells #[.int .i64 0, .int .i64 0] 27)
    rw [World.size_alloc] at this
    rw [← hU]; exact this
  rw [hU] at hb0
  have hp := parse_any s U (hE.on hb0) (hsp.below hb0)
  rw [hR] at hp
  have hcb2 : (c == 0) = false := by simpa using hc
  have hcb : (c != 0) = true := by simpa using hc
  replace hU : (w.alloc (.cells #[.int .i64 0, .string ⟨#[]⟩, .int .i64 0, .slice none 0 0] 24)).alloc (.cells #[.int .i64 0, .int .i64 0] 27) = U := hU
  clear hR hc
  go_enter Tryz.func8, Tryz.ntmps8
  go_wp2_with (go_at_call 14; refine hp.mono ?_; rintro e w1 ⟨rfl, hb1⟩; refine Hid.out ?_)
  have hbV : Below w1.heap.size w1 ((w1.alloc zbx).alloc (.cells #[.int .i64 c, .int .i64 (a : Nat)] 27)) := ext_alloc (ext_alloc (Below.refl _ _) _) _
  have gC : ((w1.alloc zbx).alloc (.cells #[.int .i64 c, .int .i64 (a : Nat)] 27)).heap[w1.heap.size + 1]? = some (.cells #[.int .i64 c, .int .i64 (a : Nat)] 27) := by
    have := alloc_new (w1.alloc zbx) (.cells #[.int .i64 c, .int .i64 (a : Nat)] 27)
    rw [World.size_alloc] at this
    exact this
  have hz1 : w.heap.size + 1 < w1.heap.size := by have := block_lt g1; have := hb1.size; omega
  refine Lib.hid ?_
  go_wp2
  obtain ⟨V, hV⟩ : ∃ V, (w1.alloc zbx).alloc (.cells #[.int .i64 c, .int .i64 (a : Nat)] 27) = V := ⟨_, rfl⟩
  rw [hV] at hbV gC
  replace hV : (w1.alloc (.cells #[.int .i64 0, .string ⟨#[]⟩, .int .i64 0, .slice none 0 0] 24)).alloc (.cells #[.int .i64 c, .int .i64 (a : Nat)] 27) = V := hV
  rw [hV]
  clear hV
  have gA := block_below hbV (block_below hb1 g0)
  have gB := block_below hbV (block_below hb1 g1)
  obtain ⟨x0, x1, x2, x3, p0, p1, p2, p3⟩ := in4 gA
  obtain ⟨y0, y1, q0, q1⟩ := in2 gB
  obtain ⟨z0, z1, _, _⟩ := in2 gC
  have hbw := ext_trans (ext_trans hb0 hb1) hbV
  clear hp hb1 g0 g1 hbV hb0
  replace hbw : Hid _ := hbw
  replace gA : Hid _ := gA
  replace gB : Hid _ := gB
  have n1 : ¬ w1.heap.size + 1 = w.heap.size := by omega
  have n2 : ¬ w1.heap.size + 1 = w.heap.size + 1 := by omega
  go_region_with (fail)
  all_goals
    go_wp2
    obtain ⟨r1, r2, hk⟩ := put42 gA.out gB.out (.int .i64 0) (.string ⟨#[]⟩) (.int .i64 0) (.slice none 0 0) (.int .i64 c) (.int .i64 (a : Nat))
    obtain ⟨X, hX⟩ : ∃ X, (((((V.setCell ⟨w.heap.size, 0, none⟩ (.int .i64 0)).setCell ⟨w.heap.size, 1, none⟩ (.string ⟨#[]⟩)).setCell ⟨w.heap.size, 2, none⟩ (.int .i64 0)).setCell ⟨w.heap.size, 3, none⟩ (.slice none 0 0)).setCell ⟨w.heap.size + 1, 0, none⟩ (.int .i64 c)).setCell ⟨w.heap.size + 1, 1, none⟩ (.int .i64 (a : Nat)) = X := ⟨_, rfl⟩
    have hX2 : pu2 (put4 V w.heap.size (.int .i64 0) (.string ⟨#[]⟩) (.int .i64 0) (.slice none 0 0)) (w.heap.size + 1) (.int .i64 c) (.int .i64 (a : Nat)) = X := hX
    rw [hX2] at r1 r2 hk
    have hfin := ((Keeps.of_below (S := no) hbw.out).then hk (fun q hq e => by omega)).below (Nat.le_refl _) (fun _ _ => id)
    rw [hX]
    clear hX hX2
    exact bodyPost_ret (res8k (W := X.drew) rfl rfl rfl r1 r2) rfl ⟨rfl, hfin.drew⟩
set_option maxRecDepth 20000 in
set_option maxHeartbeats 2000000 in
theorem checked_bad (s : ByteArray) (w : World) (hE : ErrV w) (hsp : SpTab w) (n : Nd) (c : Int) (a : Nat) (hR : parseR s.data.toList = .inr n) (hRU : unitC n = .error (c, a)) : Calls Tryz.prog 8 #[.string s] w (KOut w (.inl (c, a))) := by
  have hc := unit_code hRU
  have hcb2 : (c == 0) = false := by simpa using hc
  have hcb : (c != 0) = true := by simpa using hc
  obtain ⟨hnN, hn1, hnM⟩ := parse_sound hR
  have hb0 : Below w.heap.size w ((w.alloc zbx).alloc (.cells #[.int .i64 0, .int .i64 0] 27)) := ext_alloc (ext_alloc (Below.refl _ _) _) _
  obtain ⟨U, hU⟩ : ∃ U, (w.alloc zbx).alloc (.cells #[.int .i64 0, .int .i64 0] 27) = U := ⟨_, rfl⟩
  have g0 : U.heap[w.heap.size]? = some zbx := by rw [← hU]; exact block_alloc _ (alloc_new _ _)
  have g1 : U.heap[w.heap.size + 1]? = some (.cells #[.int .i64 0, .int .i64 0] 27) := by
    have := alloc_new (w.alloc zbx) (.cells #[.int .i64 0, .int .i64 0] 27)
    rw [World.size_alloc] at this
    rw [← hU]; exact this
  rw [hU] at hb0
  have hp := parse_any s U (hE.on hb0) (hsp.below hb0)
  rw [hR] at hp
  have hUw : w.heap.size ≤ U.heap.size := hb0.size
  replace hU : (w.alloc (.cells #[.int .i64 0, .string ⟨#[]⟩, .int .i64 0, .slice none 0 0] 24)).alloc (.cells #[.int .i64 0, .int .i64 0] 27) = U := hU
  clear hR
  go_enter Tryz.func8, Tryz.ntmps8
  go_wp2_with (go_at_call 14; refine hp.mono ?_; rintro e w1 ⟨⟨hfit, b, cap, rfl, hN⟩, hb1⟩; refine Hid.out ?_)
  have hbV : Below w1.heap.size w1 ((w1.alloc (nbx n b cap)).alloc (.cells #[.int .i64 0, .int .i64 0] 27)) := ext_alloc (ext_alloc (Below.refl _ _) _) _
  have gD : ((w1.alloc (nbx n b cap)).alloc (.cells #[.int .i64 0, .int .i64 0] 27)).heap[w1.heap.size]? = some (nbx n b cap) := block_alloc _ (alloc_new _ _)
  have gC : ((w1.alloc (nbx n b cap)).alloc (.cells #[.int .i64 0, .int .i64 0] 27)).heap[w1.heap.size + 1]? = some (.cells #[.int .i64 0, .int .i64 0] 27) := by
    have := alloc_new (w1.alloc (nbx n b cap)) (.cells #[.int .i64 0, .int .i64 0] 27)
    rw [World.size_alloc] at this
    exact this
  have hz1 : w.heap.size + 1 < w1.heap.size := by have := block_lt g1; have := hb1.size; omega
  obtain ⟨k0, t0, n0, ks⟩ := n
  simp only at hn1
  subst hn1
  refine Lib.hid ?_
  go_wp2_with (go_at_call 15; refine Hid.out ?_)
  obtain ⟨V, hV⟩ : ∃ V, (w1.alloc (nbx ⟨1, t0, n0, ks⟩ b cap)).alloc (.cells #[.int .i64 0, .int .i64 0] 27) = V := ⟨_, rfl⟩
  rw [hV] at hbV gC gD
  replace hV : (w1.alloc (.cells #[.int .i64 1, sk t0, .int .i64 n0, .slice b ks.length cap] 24)).alloc (.cells #[.int .i64 0, .int .i64 0] 27) = V := hV
  rw [hV]
  clear hV
  have hU2 : w.heap.size + 1 < U.heap.size := block_lt g1
  have hNV := (hN.weak (fun g hg hlt => (⟨hg, hlt⟩ : U.heap.size ≤ g ∧ g < w1.heap.size))).below hbV
  have hVs : w1.heap.size + 1 < V.heap.size := block_lt gC
  have hgo := goOver_any ⟨1, t0, n0, ks⟩ hnN rfl hnM b cap V (hNV.weak (fun q _ hlt => hlt))
  rw [hRU] at hgo
  have gA := block_below hbV (block_below hb1 g0)
  have gB := block_below hbV (block_below hb1 g1)
  have hbw := ext_trans (ext_trans hb0 hb1) hbV
  clear hp hb1 g0 g1 hbV hb0 hnN hN
  obtain ⟨Q, hQ⟩ : ∃ Q, w1.heap.size = Q := ⟨_, rfl⟩
  rw [hQ] at gC gD hz1 hNV hVs
  rw [hQ]
  clear hQ
  refine Lib.hid ?_
  go_wp2_with (go_at_call 15; refine hgo.mono ?_; rintro e w2 ⟨hb2, rfl⟩; have hC2 := block_below hb2 gC; obtain ⟨y0, y1, q0, q1⟩ := in2 hC2)
  have gA2 := block_below hb2 gA
  have gB2 := block_below hb2 gB
  have hC3 := pu2_same (.int .i64 c) (.int .i64 (a : Nat)) hC2
  have hA3 := (pu2_other (W := w2) (B := Q + 1) (C := w.heap.size) (.int .i64 c) (.int .i64 (a : Nat)) (by omega)).trans gA2
  have hB3 := (pu2_other (W := w2) (B := Q + 1) (C := w.heap.size + 1) (.int .i64 c) (.int .i64 (a : Nat)) (by omega)).trans gB2
  have hk3 := pu2_self w2 (Q + 1) (.int .i64 c) (.int .i64 (a : Nat))
  obtain ⟨Y, hY⟩ : ∃ Y, (w2.setCell ⟨Q + 1, 0, none⟩ (.int .i64 c)).setCell ⟨Q + 1, 1, none⟩ (.int .i64 (a : Nat)) = Y := ⟨_, rfl⟩
  have hY2 : pu2 w2 (Q + 1) (.int .i64 c) (.int .i64 (a : Nat)) = Y := hY
  rw [hY2] at hC3 hA3 hB3 hk3
  rw [hY]
  have hb3 : Below w.heap.size w Y := ((Keeps.of_below (S := no) (ext_trans hbw hb2)).then hk3 (fun q hq e => by omega)).below (Nat.le_refl _) (fun _ _ => id)
  clear hY hY2 hk3 hC2 gA2 gB2 gA gB gC gD y0 y1 q0 q1 hgo hb2 hbw hNV
  obtain ⟨x0, x1, x2, x3, p0, p1, p2, p3⟩ := in4 hA3
  obtain ⟨y0, y1, q0, q1⟩ := in2 hB3
  obtain ⟨z0, z1, _, _⟩ := in2 hC3
  replace hb3 : Hid _ := hb3
  replace hA3 : Hid _ := hA3
  replace hB3 : Hid _ := hB3
  clear hC3
  have n1 : ¬ Q + 1 = w.heap.size := by omega
  have n2 : ¬ Q = w.heap.size := by omega
  go_region_with (fail)
  all_goals
    go_wp2
    obtain ⟨r1, r2, hk⟩ := put42 hA3.out hB3.out (.int .i64 0) (.string ⟨#[]⟩) (.int .i64 0) (.slice none 0 0) (.int .i64 c) (.int .i64 (a : Nat))
    obtain ⟨X, hX⟩ : ∃ X, (((((Y.setCell ⟨w.heap.size, 0, none⟩ (.int .i64 0)).setCell ⟨w.heap.size, 1, none⟩ (.string ⟨#[]⟩)).setCell ⟨w.heap.size, 2, none⟩ (.int .i64 0)).setCell ⟨w.heap.size, 3, none⟩ (.slice none 0 0)).setCell ⟨w.heap.size + 1, 0, none⟩ (.int .i64 c)).setCell ⟨w.heap.size + 1, 1, none⟩ (.int .i64 (a : Nat)) = X := ⟨_, rfl⟩
    have hX2 : pu2 (put4 Y w.heap.size (.int .i64 0) (.string ⟨#[]⟩) (.int .i64 0) (.slice none 0 0)) (w.heap.size + 1) (.int .i64 c) (.int .i64 (a : Nat)) = X := hX
    rw [hX2] at r1 r2 hk
    have hfin := ((Keeps.of_below (S := no) hb3.out).then hk (fun q hq e => by omega)).below (Nat.le_refl _) (fun _ _ => id)
    rw [hX]
    clear hX hX2
    exact bodyPost_ret (res8k (W := X.drew) rfl rfl rfl r1 r2) rfl ⟨rfl, hfin.drew⟩
set_option maxRecDepth 20000 in
set_option maxHeartbeats 2000000 in
theorem checked_ok (s : ByteArray) (w : World) (hE : ErrV w) (hsp : SpTab w) (n : Nd) (sl : List Int) (hR : parseR s.data.toList = .inr n) (hRU : unitC n = .ok sl) : Calls Tryz.prog 8 #[.string s] w (KOut w (.inr (n, sl))) := by
  obtain ⟨hnN, hn1, hnM⟩ := parse_sound hR
  have hb0 : Below w.heap.size w ((w.alloc zbx).alloc (.cells #[.int .i64 0, .int .i64 0] 27)) := ext_alloc (ext_alloc (Below.refl _ _) _) _
  obtain ⟨U, hU⟩ : ∃ U, (w.alloc zbx).alloc (.cells #[.int .i64 0, .int .i64 0] 27) = U := ⟨_, rfl⟩
  have g0 : U.heap[w.heap.size]? = some zbx := by rw [← hU]; exact block_alloc _ (alloc_new _ _)
  have g1 : U.heap[w.heap.size + 1]? = some (.cells #[.int .i64 0, .int .i64 0] 27) := by
    have := alloc_new (w.alloc zbx) (.cells #[.int .i64 0, .int .i64 0] 27)
    rw [World.size_alloc] at this
    rw [← hU]; exact this
  rw [hU] at hb0
  have hp := parse_any s U (hE.on hb0) (hsp.below hb0)
  rw [hR] at hp
  have hUw : w.heap.size ≤ U.heap.size := hb0.size
  replace hU : (w.alloc (.cells #[.int .i64 0, .string ⟨#[]⟩, .int .i64 0, .slice none 0 0] 24)).alloc (.cells #[.int .i64 0, .int .i64 0] 27) = U := hU
  clear hR
  go_enter Tryz.func8, Tryz.ntmps8
  go_wp2_with (go_at_call 14; refine hp.mono ?_; rintro e w1 ⟨⟨hfit, b, cap, rfl, hN⟩, hb1⟩; refine Hid.out ?_)
  have hbV : Below w1.heap.size w1 ((w1.alloc (nbx n b cap)).alloc (.cells #[.int .i64 0, .int .i64 0] 27)) := ext_alloc (ext_alloc (Below.refl _ _) _) _
  have gD : ((w1.alloc (nbx n b cap)).alloc (.cells #[.int .i64 0, .int .i64 0] 27)).heap[w1.heap.size]? = some (nbx n b cap) := block_alloc _ (alloc_new _ _)
  have gC : ((w1.alloc (nbx n b cap)).alloc (.cells #[.int .i64 0, .int .i64 0] 27)).heap[w1.heap.size + 1]? = some (.cells #[.int .i64 0, .int .i64 0] 27) := by
    have := alloc_new (w1.alloc (nbx n b cap)) (.cells #[.int .i64 0, .int .i64 0] 27)
    rw [World.size_alloc] at this
    exact this
  have hz1 : w.heap.size + 1 < w1.heap.size := by have := block_lt g1; have := hb1.size; omega
  obtain ⟨k0, t0, n0, ks⟩ := n
  simp only at hn1
  subst hn1
  refine Lib.hid ?_
  go_wp2_with (go_at_call 15; refine Hid.out ?_)
  obtain ⟨V, hV⟩ : ∃ V, (w1.alloc (nbx ⟨1, t0, n0, ks⟩ b cap)).alloc (.cells #[.int .i64 0, .int .i64 0] 27) = V := ⟨_, rfl⟩
  rw [hV] at hbV gC gD
  replace hV : (w1.alloc (.cells #[.int .i64 1, sk t0, .int .i64 n0, .slice b ks.length cap] 24)).alloc (.cells #[.int .i64 0, .int .i64 0] 27) = V := hV
  rw [hV]
  clear hV
  have hU2 : w.heap.size + 1 < U.heap.size := block_lt g1
  have hNV := (hN.weak (fun g hg hlt => (⟨hg, hlt⟩ : U.heap.size ≤ g ∧ g < w1.heap.size))).below hbV
  have hVs : w1.heap.size + 1 < V.heap.size := block_lt gC
  have hgo := goOver_any ⟨1, t0, n0, ks⟩ hnN rfl hnM b cap V (hNV.weak (fun q _ hlt => hlt))
  rw [hRU] at hgo
  have gA := block_below hbV (block_below hb1 g0)
  have gB := block_below hbV (block_below hb1 g1)
  have hbw := ext_trans (ext_trans hb0 hb1) hbV
  clear hp hb1 g0 g1 hbV hb0 hnN hN
  obtain ⟨Q, hQ⟩ : ∃ Q, w1.heap.size = Q := ⟨_, rfl⟩
  rw [hQ] at gC gD hz1 hNV hVs
  rw [hQ]
  clear hQ
  refine Lib.hid ?_
  go_wp2_with (go_at_call 15; refine hgo.mono ?_; rintro e w2 ⟨hb2, sb, sc, rfl, hsl⟩; have hC2 := block_below hb2 gC; have hD2 := block_below hb2 gD; have gA2 := block_below hb2 gA; have gB2 := block_below hb2 gB; refine Hid.out ?_)
  have hn1 : ¬ Q + 1 = w.heap.size := by omega
  have hn2 : ¬ Q = w.heap.size := by omega
  have hn3 : ¬ Q = w.heap.size + 1 := by omega
  have hN2 := hNV.below hb2
  have hbw2 := ext_trans hbw hb2
  have hwV : w.heap.size ≤ V.heap.size := hbw.size
  obtain ⟨y0, y1, q0, q1⟩ := in2 hC2
  obtain ⟨v0, v1, q2, q3⟩ := in2 gB2
  obtain ⟨x0, x1, x2, x3, p0, p1, p2, p3⟩ := in4 gA2
  obtain ⟨d0, d1, d2, d3, _, _, _, _⟩ := in4 hD2
  simp only at d0 d1 d2 d3
  replace gA2 : Hid _ := gA2
  replace gB2 : Hid _ := gB2
  replace hbw2 : Hid _ := hbw2
  replace hN2 : Hid _ := hN2
  replace hsl : Hid _ := hsl
  have hlt := block_lt hC2
  clear hC2 hD2 gA gB gC gD hgo hb2 hbw hNV
  refine Lib.hid ?_
  go_wp2
  have hA3 := (pu2_other (W := w2) (B := Q + 1) (C := w.heap.size) (.int .i64 0) (.int .i64 0) (by omega)).trans gA2.out
  have hB3 := (pu2_other (W := w2) (B := Q + 1) (C := w.heap.size + 1) (.int .i64 0) (.int .i64 0) (by omega)).trans gB2.out
  have hk3 := pu2_self w2 (Q + 1) (.int .i64 0) (.int .i64 0)
  obtain ⟨r1, r2, hk⟩ := put42 hA3 hB3 (.int .i64 1) (sk t0) (.int .i64 n0) (.slice b ks.length cap) (.int .i64 0) (.int .i64 0)
  have hkk : Keeps (fun q => q = Q + 1 ∨ q = w.heap.size ∨ q = w.heap.size + 1) w2 (pu2 (put4 (pu2 w2 (Q + 1) (.int .i64 0) (.int .i64 0)) w.heap.size (.int .i64 1) (sk t0) (.int .i64 n0) (.slice b ks.length cap)) (w.heap.size + 1) (.int .i64 0) (.int .i64 0)) := (hk3.mono (fun q _ e => .inl e)).then hk (fun q _ e => .inr e)
  obtain ⟨X, hX⟩ : ∃ X, (((((((w2.setCell ⟨Q + 1, 0, none⟩ (.int .i64 0)).setCell ⟨Q + 1, 1, none⟩ (.int .i64 0)).setCell ⟨w.heap.size, 0, none⟩ (.int .i64 1)).setCell ⟨w.heap.size, 1, none⟩ (sk t0)).setCell ⟨w.heap.size, 2, none⟩ (.int .i64 n0)).setCell ⟨w.heap.size, 3, none⟩ (.slice b ks.length cap)).setCell ⟨w.heap.size + 1, 0, none⟩ (.int .i64 0)).setCell ⟨w.heap.size + 1, 1, none⟩ (.int .i64 0) = X := ⟨_, rfl⟩
  have hX2 : pu2 (put4 (pu2 w2 (Q + 1) (.int .i64 0) (.int .i64 0)) w.heap.size (.int .i64 1) (sk t0) (.int .i64 n0) (.slice b ks.length cap)) (w.heap.size + 1) (.int .i64 0) (.int .i64 0) = X := hX
  rw [hX2] at r1 r2 hkk
  have hfin := ((Keeps.of_below (S := no) hbw2.out).then hkk (fun q hq e => by omega)).below (Nat.le_refl _) (fun _ _ => id)
  have hNX := NdV.keep (S := fun g => U.heap.size ≤ g ∧ g < Q) (x := ⟨1, t0, n0, ks⟩) (v := ndv ⟨1, t0, n0, ks⟩ b cap) hN2.out hkk (fun g hg hl e => by omega)
  rw [hX]
  clear hX hX2
  refine bodyPost_ret (res8k (W := X) rfl rfl rfl r1 r2) rfl ⟨⟨b, cap, sb, sc, rfl, hNX.weak (fun q hq _ => by omega), ?_⟩, hfin⟩
  exact (SlAt.keep (lo := V.heap.size) (b := sb) (sl := sl) hsl.out hkk (fun g h1 h2 e => by omega)).mono hwV
theorem checked_any (s : ByteArray) (w : World) (hE : ErrV w) (hsp : SpTab w) : Calls Tryz.prog 8 #[.string s] w (KOut w (checkR (parseR s.data.toList))) := by
  cases hR : parseR s.data.toList with
  | inl x => obtain ⟨c, a⟩ := x; exact checked_fault s w hE hsp c a hR
  | inr n =>
    cases hU : unitC n with
    | error e =>
      obtain ⟨c, a⟩ := e
      have := checked_bad s w hE hsp n c a hR hU
      unfold checkR
      simp only [hU]
      exact this
    | ok sl =>
      have := checked_ok s w hE hsp n sl hR hU
      unfold checkR
      simp only [hU]
      exact this
end Go.Proofs.YtnnppenlfocgiaaGreatDoor
namespace Go.Proofs.YtnnppenlfocgiaaGreatDoor
open Go.RowKit
open Go

/-- What checked answers, fault or not. -/
def KO (w : World) (n : Nd) (sl : List Int) (c a : Int) (e : Ending) (w' : World) : Prop :=
  ∃ b cap sb sc, e = .returned (.tuple #[ndv n b cap, .slice sb sl.length sc, .agg #[.int .i64 c, .int .i64 a]]) ∧ NdV (fun g => w.heap.size ≤ g) w' n (ndv n b cap) ∧ SlAt w.heap.size w' sb sl ∧ Below w.heap.size w w'
structure Ko where
  n : Nd
  sl : List Int
  c : Int
  a : Int
def koOf (R : (Int × Nat) ⊕ (Nd × List Int)) : Ko := match R with
  | .inl (c, a) => ⟨nil0, [], c, (a : Nat)⟩
  | .inr (n, sl) => ⟨n, sl, 0, 0⟩
theorem checked_u (s : ByteArray) (w : World) (hE : ErrV w) (hsp : SpTab w) (K : Ko) (hK : koOf (checkR (parseR s.data.toList)) = K) : Calls Tryz.prog 8 #[.string s] w (KO w K.n K.sl K.c K.a) := by
  subst hK
  refine (checked_any s w hE hsp).mono fun e w' h => ?_
  obtain ⟨h1, h2⟩ := h
  cases hR : checkR (parseR s.data.toList) with
  | inl x =>
    obtain ⟨c, a⟩ := x
    rw [hR] at h1
    exact ⟨none, 0, none, 0, h1, ndV_leaf _ w' 0 [] 0, .inl rfl, h2⟩
  | inr x =>
    obtain ⟨n, sl⟩ := x
    rw [hR] at h1
    obtain ⟨b, cap, sb, sc, p1, p2, p3⟩ := h1
    exact ⟨b, cap, sb, sc, p1, p2, p3, h2⟩
theorem res4k {tm : Array Value} {W : World} {B C : Nat} {a b c d x y : Value} (h : tm[2]?.getD undef = .pointer (some ⟨B, 0, none⟩)) (h' : tm[3]?.getD undef = .pointer (some ⟨C, 0, none⟩)) (hx : W.heap[B]? = some (.cells #[a, b, c, d] 24)) (hy : W.heap[C]? = some (.cells #[x, y] 27)) : (results Tryz.f4 tm).run Tryz.prog W = .ok (.tuple #[.agg #[a, b, c, d], .agg #[x, y]]) W := by
  obtain ⟨c0, c1, c2, c3, _, _, _, _⟩ := in4 hx
  have d0 : W.cell? ⟨C, 0, none⟩ = some x := cell_block hy rfl
  have d1 : W.cell? ⟨C, 1, none⟩ = some y := cell_block hy rfl
  simp [results, Tryz.results4, go_sem, h, h', c0, c1, c2, c3, d0, d1]
theorem res5k {tm : Array Value} {W : World} {C : Nat} {v x y : Value} (hv : tm[2]?.getD undef = v) (h' : tm[3]?.getD undef = .pointer (some ⟨C, 0, none⟩)) (hy : W.heap[C]? = some (.cells #[x, y] 27)) : (results Tryz.f5 tm).run Tryz.prog W = .ok (.tuple #[v, .agg #[x, y]]) W := by
  have d0 : W.cell? ⟨C, 0, none⟩ = some x := cell_block hy rfl
  have d1 : W.cell? ⟨C, 1, none⟩ = some y := cell_block hy rfl
  subst hv
  simp [results, Tryz.results5, go_sem, h', d0, d1]
set_option maxRecDepth 20000 in
set_option maxHeartbeats 2000000 in
theorem check_any (s : ByteArray) (w : World) (hE : ErrV w) (hsp : SpTab w) (K : Ko) (hK : koOf (checkR (parseR s.data.toList)) = K) : Calls Tryz.prog 4 #[.string s] w fun e w' => ∃ b cap, e = .returned (.tuple #[ndv K.n b cap, .agg #[.int .i64 K.c, .int .i64 K.a]]) ∧ NdV (fun g => w.heap.size ≤ g) w' K.n (ndv K.n b cap) ∧ Below w.heap.size w w' := by
  have hb0 : Below w.heap.size w ((w.alloc zbx).alloc (.cells #[.int .i64 0, .int .i64 0] 27)) := ext_alloc (ext_alloc (Below.refl _ _) _) _
  obtain ⟨U, hU⟩ : ∃ U, (w.alloc zbx).alloc (.cells #[.int .i64 0, .int .i64 0] 27) = U := ⟨_, rfl⟩
  have g0 : U.heap[w.heap.size]? = some zbx := by rw [← hU]; exact block_alloc _ (alloc_new _ _)
  have g1 : U.heap[w.heap.size + 1]? = some (.cells #[.int .i64 0, .int .i64 0] 27) := by
    have := alloc_new (w.alloc zbx) (.cells #[.int .i64 0, .int .i64 0] 27)
    rw [World.size_alloc] at this
    rw [← hU]; exact this
  rw [hU] at hb0
  have hp := checked_u s U (hE.on hb0) (hsp.below hb0) K hK
  obtain ⟨⟨k0, t0, n0, ks⟩, sl, c, a⟩ := K
  simp only at hp
  clear hK
  have hU2 : w.heap.size + 1 < U.heap.size := block_lt g1
  replace hU : (w.alloc (.cells #[.int .i64 0, .string ⟨#[]⟩, .int .i64 0, .slice none 0 0] 24)).alloc (.cells #[.int .i64 0, .int .i64 0] 27) = U := hU
  go_enter Tryz.func4, Tryz.ntmps4
  go_wp2_with (go_at_call 8; refine hp.mono ?_; rintro e w1 ⟨b, cap, sb, sc, rfl, hN, hsl, hb1⟩; refine Hid.out ?_)
  have hbV : Below w1.heap.size w1 ((w1.alloc (nbx ⟨k0, t0, n0, ks⟩ b cap)).alloc (.cells #[.int .i64 c, .int .i64 a] 27)) := ext_alloc (ext_alloc (Below.refl _ _) _) _
  have gD : ((w1.alloc (nbx ⟨k0, t0, n0, ks⟩ b cap)).alloc (.cells #[.int .i64 c, .int .i64 a] 27)).heap[w1.heap.size]? = some (nbx ⟨k0, t0, n0, ks⟩ b cap) := block_alloc _ (alloc_new _ _)
  have gC : ((w1.alloc (nbx ⟨k0, t0, n0, ks⟩ b cap)).alloc (.cells #[.int .i64 c, .int .i64 a] 27)).heap[w1.heap.size + 1]? = some (.cells #[.int .i64 c, .int .i64 a] 27) := by
    have := alloc_new (w1.alloc (nbx ⟨k0, t0, n0, ks⟩ b cap)) (.cells #[.int .i64 c, .int .i64 a] 27)
    rw [World.size_alloc] at this
    exact this
  have hz1 : w.heap.size + 1 < w1.heap.size := by have := hb1.size; omega
  refine Lib.hid ?_
  go_wp2
  obtain ⟨V, hV⟩ : ∃ V, (w1.alloc (nbx ⟨k0, t0, n0, ks⟩ b cap)).alloc (.cells #[.int .i64 c, .int .i64 a] 27) = V := ⟨_, rfl⟩
  rw [hV] at hbV gC gD
  replace hV : (w1.alloc (.cells #[.int .i64 k0, sk t0, .int .i64 n0, .slice b ks.length cap] 24)).alloc (.cells #[.int .i64 c, .int .i64 a] 27) = V := hV
  rw [hV]
  clear hV
  have gA := block_below hbV (block_below hb1 g0)
  have gB := block_below hbV (block_below hb1 g1)
  have hbw := ext_trans (ext_trans hb0 hb1) hbV
  have hNV : NdV (fun g => U.heap.size ≤ g ∧ g < w1.heap.size) V ⟨k0, t0, n0, ks⟩ (ndv ⟨k0, t0, n0, ks⟩ b cap) := (hN.weak (fun g hg hlt => (⟨hg, hlt⟩ : U.heap.size ≤ g ∧ g < w1.heap.size))).below hbV
  obtain ⟨Q, hQ⟩ : ∃ Q, w1.heap.size = Q := ⟨_, rfl⟩
  rw [hQ] at gC gD hz1 hNV
  rw [hQ]
  clear hQ hp hb1 g0 g1 hbV hb0 hN hsl
  obtain ⟨x0, x1, x2, x3, p0, p1, p2, p3⟩ := in4 gA
  obtain ⟨y0, y1, q0, q1⟩ := in2 gB
  obtain ⟨z0, z1, _, _⟩ := in2 gC
  obtain ⟨d0, d1, d2, d3, _, _, _, _⟩ := in4 gD
  simp only at d0 d1 d2 d3
  replace hbw : Hid (Below w.heap.size w V) := hbw
  replace gA : Hid (V.heap[w.heap.size]? = some zbx) := gA
  replace gB : Hid (V.heap[w.heap.size + 1]? = some (.cells #[.int .i64 0, .int .i64 0] 27)) := gB
  replace hNV : Hid (NdV (fun g => U.heap.size ≤ g ∧ g < Q) V ⟨k0, t0, n0, ks⟩ (ndv ⟨k0, t0, n0, ks⟩ b cap)) := hNV
  clear gC gD
  have n1 : ¬ Q + 1 = w.heap.size := by omega
  have n2 : ¬ Q = w.heap.size := by omega
  have n3 : ¬ Q = w.heap.size + 1 := by omega
  go_region_with (fail)
  all_goals
    go_wp2
    obtain ⟨r1, r2, hk⟩ := put42 gA.out gB.out (.int .i64 k0) (sk t0) (.int .i64 n0) (.slice b ks.length cap) (.int .i64 c) (.int .i64 a)
    obtain ⟨X, hX⟩ : ∃ X, (((((V.setCell ⟨w.heap.size, 0, none⟩ (.int .i64 k0)).setCell ⟨w.heap.size, 1, none⟩ (sk t0)).setCell ⟨w.heap.size, 2, none⟩ (.int .i64 n0)).setCell ⟨w.heap.size, 3, none⟩ (.slice b ks.length cap)).setCell ⟨w.heap.size + 1, 0, none⟩ (.int .i64 c)).setCell ⟨w.heap.size + 1, 1, none⟩ (.int .i64 a) = X := ⟨_, rfl⟩
    have hX2 : pu2 (put4 V w.heap.size (.int .i64 k0) (sk t0) (.int .i64 n0) (.slice b ks.length cap)) (w.heap.size + 1) (.int .i64 c) (.int .i64 a) = X := hX
    rw [hX2] at r1 r2 hk
    have hfin := ((Keeps.of_below (S := no) hbw.out).then hk (fun q hq e => by omega)).below (Nat.le_refl _) (fun _ _ => id)
    have hNX := hNV.out.keep hk (fun g hg hl e => by omega)
    rw [hX]
    clear hX hX2
    exact bodyPost_ret (res4k (W := X.drew) rfl rfl r1 r2) rfl ⟨b, cap, rfl, (hNX.below ((Below.refl _ _).drew)).weak (fun q hq _ => by omega), hfin.drew⟩
set_option maxRecDepth 20000 in
set_option maxHeartbeats 2000000 in
theorem slots_any (s : ByteArray) (w : World) (hE : ErrV w) (hsp : SpTab w) (K : Ko) (hK : koOf (checkR (parseR s.data.toList)) = K) : Calls Tryz.prog 5 #[.string s] w fun e w' => ∃ sb sc, e = .returned (.tuple #[.slice sb K.sl.length sc, .agg #[.int .i64 K.c, .int .i64 K.a]]) ∧ SlAt w.heap.size w' sb K.sl ∧ Below w.heap.size w w' := by
  have hb0 : Below w.heap.size w (w.alloc (.cells #[.int .i64 0, .int .i64 0] 27)) := ext_alloc (Below.refl _ _) _
  obtain ⟨U, hU⟩ : ∃ U, w.alloc (.cells #[.int .i64 0, .int .i64 0] 27) = U := ⟨_, rfl⟩
  have g1 : U.heap[w.heap.size]? = some (.cells #[.int .i64 0, .int .i64 0] 27) := by rw [← hU]; exact alloc_new _ _
  rw [hU] at hb0
  have hp := checked_u s U (hE.on hb0) (hsp.below hb0) K hK
  obtain ⟨⟨k0, t0, n0, ks⟩, sl, c, a⟩ := K
  simp only at hp
  clear hK
  have hU2 : w.heap.size < U.heap.size := block_lt g1
  go_enter Tryz.func5, Tryz.ntmps5
  go_wp2_with (go_at_call 8; refine hp.mono ?_; rintro e w1 ⟨b, cap, sb, sc, rfl, hN, hsl, hb1⟩; refine Hid.out ?_)
  have hbV : Below w1.heap.size w1 ((w1.alloc (nbx ⟨k0, t0, n0, ks⟩ b cap)).alloc (.cells #[.int .i64 c, .int .i64 a] 27)) := ext_alloc (ext_alloc (Below.refl _ _) _) _
  have gC : ((w1.alloc (nbx ⟨k0, t0, n0, ks⟩ b cap)).alloc (.cells #[.int .i64 c, .int .i64 a] 27)).heap[w1.heap.size + 1]? = some (.cells #[.int .i64 c, .int .i64 a] 27) := by
    have := alloc_new (w1.alloc (nbx ⟨k0, t0, n0, ks⟩ b cap)) (.cells #[.int .i64 c, .int .i64 a] 27)
    rw [World.size_alloc] at this
    exact this
  have hz1 : w.heap.size < w1.heap.size := by have := hb1.size; omega
  refine Lib.hid ?_
  go_wp2
  obtain ⟨V, hV⟩ : ∃ V, (w1.alloc (nbx ⟨k0, t0, n0, ks⟩ b cap)).alloc (.cells #[.int .i64 c, .int .i64 a] 27) = V := ⟨_, rfl⟩
  rw [hV] at hbV gC
  replace hV : (w1.alloc (.cells #[.int .i64 k0, sk t0, .int .i64 n0, .slice b ks.length cap] 24)).alloc (.cells #[.int .i64 c, .int .i64 a] 27) = V := hV
  rw [hV]
  clear hV
  have gB := block_below hbV (block_below hb1 g1)
  have hbw := ext_trans (ext_trans hb0 hb1) hbV
  have hslV := hsl.below hbV
  obtain ⟨Q, hQ⟩ : ∃ Q, w1.heap.size = Q := ⟨_, rfl⟩
  rw [hQ] at gC hz1
  rw [hQ]
  clear hQ hp hb1 g1 hbV hb0 hN hsl
  obtain ⟨y0, y1, q0, q1⟩ := in2 gB
  obtain ⟨z0, z1, _, _⟩ := in2 gC
  replace hbw : Hid (Below w.heap.size w V) := hbw
  replace gB : Hid (V.heap[w.heap.size]? = some (.cells #[.int .i64 0, .int .i64 0] 27)) := gB
  replace hslV : Hid (SlAt U.heap.size V sb sl) := hslV
  clear gC
  have n1 : ¬ Q + 1 = w.heap.size := by omega
  go_region_with (fail)
  all_goals
    go_wp2
    have r2 := pu2_same (.int .i64 c) (.int .i64 a) gB.out
    have hk := pu2_self V w.heap.size (.int .i64 c) (.int .i64 a)
    obtain ⟨X, hX⟩ : ∃ X, (V.setCell ⟨w.heap.size, 0, none⟩ (.int .i64 c)).setCell ⟨w.heap.size, 1, none⟩ (.int .i64 a) = X := ⟨_, rfl⟩
    have hX2 : pu2 V w.heap.size (.int .i64 c) (.int .i64 a) = X := hX
    rw [hX2] at r2 hk
    have hfin := ((Keeps.of_below (S := no) hbw.out).then hk (fun q hq e => by omega)).below (Nat.le_refl _) (fun _ _ => id)
    have hsX := hslV.out.keep hk (fun g h1 h2 e => by omega)
    rw [hX]
    clear hX hX2
    exact bodyPost_ret (res5k (W := X.drew) rfl rfl r2) rfl ⟨sb, sc, rfl, (hsX.below ((Below.refl _ _).drew)).mono (by omega), hfin.drew⟩
end Go.Proofs.YtnnppenlfocgiaaGreatDoor
