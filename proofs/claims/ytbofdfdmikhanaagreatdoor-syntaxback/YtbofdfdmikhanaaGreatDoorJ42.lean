/- The program's Parse. The document's Parse. -/
import Derived.Test.YtbofdfdmikhanaaGreatDoorJ41
import Derived.Test.YtbofdfdmikhanaaGreatDoorJ35
namespace Go.Proofs.YtbofdfdmikhanaaGreatDoor
open Go.RowKit
open Go

theorem resP7 {tm : Array Value} {W : World} {B C : Nat} {a b c d x y : Value} (h : tm[2]?.getD undef = .pointer (some ⟨B, 0, none⟩)) (h' : tm[3]?.getD undef = .pointer (some ⟨C, 0, none⟩)) (hx : W.heap[B]? = some (.cells #[a, b, c, d] 24)) (hy : W.heap[C]? = some (.cells #[x, y] 27)) : (results Tryz.f7 tm).run Tryz.prog W = .ok (.tuple #[.agg #[a, b, c, d], .agg #[x, y]]) W := by
  obtain ⟨c0, c1, c2, c3, _, _, _, _⟩ := in4 hx
  have d0 : W.cell? ⟨C, 0, none⟩ = some x := cell_block hy rfl
  have d1 : W.cell? ⟨C, 1, none⟩ = some y := cell_block hy rfl
  simp [results, Tryz.results7, go_sem, h, h', c0, c1, c2, c3, d0, d1]
/-- The boxes of the two results. -/
structure PX (w W : World) : Prop where
  g0 : W.heap[w.heap.size]? = some zbx
  g1 : W.heap[w.heap.size + 1]? = some (.cells #[.int .i64 0, .int .i64 0] 27)
  bl : Below w.heap.size w W
theorem PX.on {w W W' : World} (h : PX w W) (hb : Below W.heap.size W W') : PX w W' := ⟨block_below hb h.g0, block_below hb h.g1, ext_trans h.bl hb⟩
theorem px_new (w : World) : PX w ((w.alloc zbx).alloc (.cells #[.int .i64 0, .int .i64 0] 27)) := by
  have h0 := alloc_new w zbx
  have h1 := alloc_new (w.alloc zbx) (.cells #[.int .i64 0, .int .i64 0] 27)
  rw [World.size_alloc] at h1
  exact ⟨block_alloc _ h0, h1, ext_alloc (ext_alloc (Below.refl _ _) _) _⟩
/-- A result that is a fault. -/
theorem px_fault {w W : World} (h : PX w W) (c : Int) (a : Nat) {X : World} (hX : (((((W.setCell ⟨w.heap.size, 0, none⟩ (.int .i64 0)).setCell ⟨w.heap.size, 1, none⟩ (.string ⟨#[]⟩)).setCell ⟨w.heap.size, 2, none⟩ (.int .i64 0)).setCell ⟨w.heap.size, 3, none⟩ (.slice none 0 0)).setCell ⟨w.heap.size + 1, 0, none⟩ (.int .i64 c)).setCell ⟨w.heap.size + 1, 1, none⟩ (.int .i64 (a : Nat)) = X) : X.heap[w.heap.size]? = some zbx ∧ X.heap[w.heap.size + 1]? = some (.cells #[.int .i64 c, .int .i64 (a : Nat)] 27) ∧ Below w.heap.size w X := by
  have hX' : pu2 (put4 W w.heap.size (.int .i64 0) (sk []) (.int .i64 0) (.slice none 0 0)) (w.heap.size + 1) (.int .i64 c) (.int .i64 (a : Nat)) = X := hX
  subst hX'
  refine ⟨(pu2_other _ _ (by omega)).trans (put4_same _ _ _ _ h.g0), pu2_same _ _ ((put4_other _ _ _ _ (by omega)).trans h.g1), ?_⟩
  exact (((Keeps.of_below (S := no) h.bl).then (put4_self _ _ _ _ _ _) (fun q hq e => by omega)).then (pu2_self _ _ _ _) (fun q hq e => by omega)).below (Nat.le_refl _) (fun _ _ => id)
set_option maxRecDepth 20000 in
set_option maxHeartbeats 1000000 in
theorem parse_bad (s : ByteArray) (c : Int) (a : Nat) (w : World) (hE : ErrV w) (hR : scanAll s.data.toList = .inl (c, a)) : Calls Tryz.prog 7 #[.string s] w (POut w (.inl (c, a))) := by
  have hc := code_of hR
  have hq : (c == 0) = false := by simpa using hc
  have hPX := px_new w
  have hS : Calls Tryz.prog 12 #[.string s] ((w.alloc zbx).alloc (.cells #[.int .i64 0, .int .i64 0] 27)) fun e w' => (∃ b n d, e = .returned (.tuple #[.slice b n d, .agg #[.int .i64 c, .int .i64 (a : Nat)]])) ∧ Below ((w.alloc zbx).alloc (.cells #[.int .i64 0, .int .i64 0] 27)).heap.size ((w.alloc zbx).alloc (.cells #[.int .i64 0, .int .i64 0] 27)) w' := (scan_any s _ (hE.on hPX.bl)).mono fun e w' h => by
    rw [hR] at h
    obtain ⟨⟨b, n, d, h1, _⟩, h2⟩ := h
    exact ⟨⟨b, n, d, h1⟩, h2⟩
  clear hR
  go_enter Tryz.func7, Tryz.ntmps7
  go_wp2_with (go_at_call 12; refine hS.mono ?_; rintro e w1 ⟨⟨b1, n1, d1, rfl⟩, hb1⟩; refine Hid.out ?_)
  have hP1 := hPX.on hb1
  have hP2 := hP1.on (ext_alloc (Below.refl _ _) (.cells #[.int .i64 c, .int .i64 (a : Nat)] 27))
  obtain ⟨c0, c1, c2, c3, f0, f1, f2, f3⟩ := in4 hP1.g0
  obtain ⟨x0, x1, x2, x3, y0, y1, y2, y3⟩ := in4a hP1.g0
  obtain ⟨p0, p1, q0, q1⟩ := in2 hP1.g1
  have r0 := fun o => (in2 (block_alloc o hP1.g1)).c0
  have r1 := fun o => (in2 (block_alloc o hP1.g1)).c1
  have r2 := fun o => (in2 (block_alloc o hP1.g1)).f0
  have r3 := fun o => (in2 (block_alloc o hP1.g1)).f1
  have hz := block_lt hP1.g1
  have n1' : ¬ w.heap.size = w1.heap.size := by omega
  have n2' : ¬ w1.heap.size = w.heap.size := by omega
  have n3' : ¬ w.heap.size + 1 = w1.heap.size := by omega
  have n4' : ¬ w1.heap.size = w.heap.size + 1 := by omega
  refine Lib.hid ?_
  go_wp2
  go_region_with (fail)
  all_goals
    go_wp2
    obtain ⟨X, hX⟩ : ∃ X, ((((((w1.alloc (.cells #[.int .i64 c, .int .i64 (a : Nat)] 27)).setCell ⟨w.heap.size, 0, none⟩ (.int .i64 0)).setCell ⟨w.heap.size, 1, none⟩ (.string ⟨#[]⟩)).setCell ⟨w.heap.size, 2, none⟩ (.int .i64 0)).setCell ⟨w.heap.size, 3, none⟩ (.slice none 0 0)).setCell ⟨w.heap.size + 1, 0, none⟩ (.int .i64 c)).setCell ⟨w.heap.size + 1, 1, none⟩ (.int .i64 (a : Nat)) = X := ⟨_, rfl⟩
    obtain ⟨z1, z2, z3⟩ := px_fault hP2 c a hX
    rw [hX]
    clear hX
    exact bodyPost_ret (resP7 (W := X.drew) rfl rfl z1 z2) rfl ⟨rfl, z3.drew⟩
set_option maxRecDepth 20000 in
set_option maxHeartbeats 1000000 in
theorem parse_form (s : ByteArray) (ts : List Tok) (l : List PT) (w : World) (hE : ErrV w) (hsp : SpTab w) (hR : scanAll s.data.toList = .inr ts) (hP : P 64012 12 (nd 1 []) 0 (ts.map pt) = some (.inl l)) : Calls Tryz.prog 7 #[.string s] w (POut w (.inl (2, fpos ts s.size (ts.length - l.length)))) := by
  obtain ⟨hlen, hV, _⟩ := toks_of hR
  have hPX := px_new w
  have hS : Calls Tryz.prog 12 #[.string s] ((w.alloc zbx).alloc (.cells #[.int .i64 0, .int .i64 0] 27)) fun e w' => (∃ b d, e = .returned (.tuple #[.slice b ts.length d, .agg #[.int .i64 0, .int .i64 0]]) ∧ ts.length ≤ d ∧ TokAt w' b ts w'.heap.size) ∧ Below ((w.alloc zbx).alloc (.cells #[.int .i64 0, .int .i64 0] 27)).heap.size ((w.alloc zbx).alloc (.cells #[.int .i64 0, .int .i64 0] 27)) w' := (scan_any s _ (hE.on hPX.bl)).mono fun e w' h => by
    rw [hR] at h
    obtain ⟨⟨b, n, d, h1, h3⟩, h2⟩ := h
    obtain ⟨rfl, h4, h5⟩ := tokAt_of h3
    exact ⟨⟨b, d, h1, h4, h5⟩, h2⟩
  have hx : ∀ i, rest ts i = l → i ≤ ts.length → i = ts.length - l.length := fun i h1 h2 => by
    have := rest_len ts i
    rw [h1] at this
    omega
  clear hR
  obtain ⟨L, hL⟩ : ∃ L, ts.length = L := ⟨_, rfl⟩
  rw [hL] at hS
  go_enter Tryz.func7, Tryz.ntmps7
  go_wp2_with (first | (go_at_call 12; refine hS.mono ?_; rintro e w1 ⟨⟨b1, d1, rfl, hd1, hT1⟩, hb1⟩) | (go_at_call 13; refine Hid.out ?_))
  have hP1 := hPX.on hb1
  have hb2 := ext_alloc (Below.refl w1.heap.size w1) (.cells #[.int .i64 0, .int .i64 0] 27)
  have hP2 := hP1.on hb2
  have hRd := read_no ts b1 d1 s.size l (w1.alloc (.cells #[.int .i64 0, .int .i64 0] 27)) hV ((hT1.below hb2).mono (by simp)) (hsp.below hP2.bl) hlen (by omega) hP
  rw [hL] at hRd
  have g2 := alloc_new w1 (.cells #[.int .i64 0, .int .i64 0] 27)
  have hz := block_lt hP1.g1
  refine Lib.hid ?_
  go_wp2_with (go_at_call 13; refine hRd.mono ?_; rintro e w3 ⟨i, hi, hle, rfl, hb3⟩; refine Hid.out ?_)
  have hP3 := hP2.on hb3
  have g3 := block_below hb3 g2
  obtain ⟨v, hv⟩ : ∃ v, fpos ts s.size i = v := ⟨_, rfl⟩
  obtain rfl := hx i hi (by omega)
  obtain ⟨F, hF⟩ : ∃ F, w1.heap.size = F := ⟨_, rfl⟩
  rw [hF] at g3 hz
  rw [hv, hF]
  have hz3 := block_lt g3
  clear hRd hi hx hF hS hb2 hb3 hP1 hP2 hT1 g2
  replace hv : Hid _ := hv
  obtain ⟨c0, c1, c2, c3, f0, f1, f2, f3⟩ := in4 hP3.g0
  obtain ⟨x0, x1, x2, x3, y0, y1, y2, y3⟩ := in4a hP3.g0
  obtain ⟨p0, p1, q0, q1⟩ := in2 hP3.g1
  obtain ⟨k0, k1, l0, l1⟩ := in2 g3
  have r0 := fun o => (in2 (block_alloc o hP3.g1)).c0
  have r1 := fun o => (in2 (block_alloc o hP3.g1)).c1
  have r2 := fun o => (in2 (block_alloc o hP3.g1)).f0
  have r3 := fun o => (in2 (block_alloc o hP3.g1)).f1
  have s0 := fun o => (in2 (block_alloc o g3)).c0
  have s1 := fun o => (in2 (block_alloc o g3)).c1
  have s2 := fun o => (in2 (block_alloc o g3)).f0
  have s3 := fun o => (in2 (block_alloc o g3)).f1
  have n1' : ¬ w.heap.size = F := by omega
  have n2' : ¬ F = w.heap.size := by omega
  have n3' : ¬ w.heap.size + 1 = F := by omega
  have n4' : ¬ F = w.heap.size + 1 := by omega
  have n5' : ¬ F = w3.heap.size := by omega
  have n6' : ¬ w3.heap.size = F := by omega
  have n7' : ¬ w.heap.size = w3.heap.size := by omega
  have n8' : ¬ w.heap.size + 1 = w3.heap.size := by omega
  have hkF : Keeps (fun q => q = F) w3 (pu2 w3 F (.int .i64 2) (.int .i64 (v : Nat))) := pu2_self _ _ _ _
  have hPF : PX w (pu2 w3 F (.int .i64 2) (.int .i64 (v : Nat))) := ⟨hkF.box hP3.g0 (by omega), hkF.box hP3.g1 (by omega), ((Keeps.of_below (S := no) hP3.bl).then hkF (fun q hq e => by omega)).below (Nat.le_refl _) (fun _ _ => id)⟩
  have gF := pu2_same (.int .i64 2) (.int .i64 (v : Nat)) g3
  have xb := ext_alloc (Below.refl _ (pu2 w3 F (.int .i64 2) (.int .i64 (v : Nat)))) zbx
  have hPY := hPF.on xb
  have gY := block_below xb gF
  refine Lib.hid ?_
  go_wp2
  obtain ⟨Y, hY⟩ : ∃ Y, ((w3.setCell ⟨F, 0, none⟩ (.int .i64 2)).setCell ⟨F, 1, none⟩ (.int .i64 (v : Nat))).alloc (.cells #[.int .i64 0, .string ⟨#[]⟩, .int .i64 0, .slice none 0 0] 24) = Y := ⟨_, rfl⟩
  rw [hY]
  replace hPY : PX w Y := hY ▸ hPY
  replace gY : Y.heap[F]? = some (.cells #[.int .i64 2, .int .i64 (v : Nat)] 27) := hY ▸ gY
  clear hY hkF hPF gF xb k0 k1 l0 l1 s0 s1 s2 s3 c0 c1 c2 c3 f0 f1 f2 f3 p0 p1 q0 q1 r0 r1 r2 r3 x0 x1 x2 x3 y0 y1 y2 y3
  obtain ⟨c0, c1, c2, c3, f0, f1, f2, f3⟩ := in4 hPY.g0
  obtain ⟨p0, p1, q0, q1⟩ := in2 hPY.g1
  obtain ⟨k0, k1, l0, l1⟩ := in2 gY
  go_region_with (fail)
  all_goals
    go_wp2
    obtain ⟨X, hX⟩ : ∃ X, (((((Y.setCell ⟨w.heap.size, 0, none⟩ (.int .i64 0)).setCell ⟨w.heap.size, 1, none⟩ (.string ⟨#[]⟩)).setCell ⟨w.heap.size, 2, none⟩ (.int .i64 0)).setCell ⟨w.heap.size, 3, none⟩ (.slice none 0 0)).setCell ⟨w.heap.size + 1, 0, none⟩ (.int .i64 2)).setCell ⟨w.heap.size + 1, 1, none⟩ (.int .i64 (v : Nat)) = X := ⟨_, rfl⟩
    obtain ⟨z1, z2, z3⟩ := px_fault hPY 2 v hX
    rw [hX]
    clear hX
    exact bodyPost_ret (resP7 (W := X.drew) rfl rfl z1 z2) rfl ⟨by rw [hv.out], z3.drew⟩
end Go.Proofs.YtbofdfdmikhanaaGreatDoor
namespace Go.Proofs.YtbofdfdmikhanaaGreatDoor
open Go.RowKit
open Go

theorem resP8 {tm : Array Value} {W : World} {B C : Nat} {a b c d x y : Value} (h : tm[2]?.getD undef = .pointer (some ⟨B, 0, none⟩)) (h' : tm[3]?.getD undef = .pointer (some ⟨C, 0, none⟩)) (hx : W.heap[B]? = some (.cells #[a, b, c, d] 24)) (hy : W.heap[C]? = some (.cells #[x, y] 27)) : (results Tryz.f8 tm).run Tryz.prog W = .ok (.tuple #[.agg #[a, b, c, d], .agg #[x, y]]) W := by
  obtain ⟨c0, c1, c2, c3, _, _, _, _⟩ := in4 hx
  have d0 : W.cell? ⟨C, 0, none⟩ = some x := cell_block hy rfl
  have d1 : W.cell? ⟨C, 1, none⟩ = some y := cell_block hy rfl
  simp [results, Tryz.results8, go_sem, h, h', c0, c1, c2, c3, d0, d1]
/-- The program that is being put together, in its box t. -/
structure NP (w : World) (B t : Nat) (bl : Option Addr) (ts : List Tok) (W : World) (ks : List Nd) (b : Option Addr) (cap j : Nat) (bad : Bool) : Prop where
  g : W.heap[t]? = some (nbx (nd 1 ks) b cap)
  row : Row (fun q => t < q) W (.slice b ks.length cap) ks
  R : Dr W B ts j bad
  X : PX w W
  T : TokAt W bl ts B
  lt : B < t
  hB : w.heap.size + 1 < B
theorem NP.own {w W : World} {B t : Nat} {bl : Option Addr} {ts : List Tok} {ks : List Nd} {b : Option Addr} {cap j : Nat} {bad : Bool} (h : NP w B t bl ts W ks b cap j bad) : ∀ q, Value.ownBlock (.slice b ks.length cap) = some q → t < q ∧ q < W.heap.size := by
  obtain ⟨_, _, _, hlt9⟩ := h.row.form
  exact hlt9
theorem PX.keep {w W W' : World} {S : Nat → Prop} (h : PX w W) (hk : Keeps S W W') (hS : ∀ q, S q → w.heap.size + 1 < q) : PX w W' :=
  ⟨hk.box h.g0 (fun e => by have := hS _ e; omega), hk.box h.g1 (fun e => by have := hS _ e; omega), ((Keeps.of_below (S := no) h.bl).then hk (fun q hq e => by have := hS _ e; omega)).below (Nat.le_refl _) (fun _ _ => id)⟩
theorem NP.on {w W W' : World} {B t : Nat} {bl : Option Addr} {ts : List Tok} {ks : List Nd} {b : Option Addr} {cap j j' : Nat} {bad bad' : Bool} (h : NP w B t bl ts W ks b cap j bad) (hk : Keeps (fun q => q = B) W W') (hR : Dr W' B ts j' bad') : NP w B t bl ts W' ks b cap j' bad' := by
  have h1 := h.lt
  have h2 := h.hB
  exact ⟨hk.box h.g (by omega), h.row.keep hk (fun q hq _ e => by omega), hR, h.X.keep hk (fun q e => by omega), h.T.keep hk (fun q hq e => by omega), h1, h2⟩
theorem NP.below {w W W' : World} {B t : Nat} {bl : Option Addr} {ts : List Tok} {ks : List Nd} {b : Option Addr} {cap j : Nat} {bad : Bool} (h : NP w B t bl ts W ks b cap j bad) (hb : Below W.heap.size W W') : NP w B t bl ts W' ks b cap j bad := h.on (Keeps.of_below hb) (h.R.below hb)
theorem NP.app {w W w3 W4 : World} {B t : Nat} {bl : Option Addr} {ts : List Tok} {ks : List Nd} {b : Option Addr} {cap j : Nat} {bad : Bool} (h : NP w B t bl ts W ks b cap j bad) {y : Nd} {b1 : Option Addr} {cap1 : Nat} {xs : List Value} {g cap3 : Nat} (ho : W.ownsRow 0 24 4 (.slice b ks.length cap) ks.length xs) (hn : ∀ j y, ks[j]? = some y → NdAt (fun g => (t < g) ∧ some g ≠ Value.ownBlock (.slice b ks.length cap)) W y (fun i => if i < 4 then xs[j * 4 + i]? else none)) (hy : NdV (fun q => t < q ∧ some q ≠ Value.ownBlock (.slice b ks.length cap)) W y (ndv y b1 cap1))
    (hown : w3.ownsRow 0 24 4 (.slice (some ⟨g, 0, none⟩) (ks.length + 1) cap3) (ks.length + 1) (xs ++ [.int .i64 y.k, sk y.t, .int .i64 y.n, .slice b1 y.kids.length cap1])) (hgrow : W.grownBy w3 (Value.ownBlock (.slice b ks.length cap))) (hat : Value.ownBlock (.slice b ks.length cap) = some g ∨ g = W.heap.size) (hW4 : w3.setCell ⟨t, 3, none⟩ (.slice (some ⟨g, 0, none⟩) (ks.length + 1) cap3) = W4) : NP w B t bl ts W4 (ks ++ [y]) (some ⟨g, 0, none⟩) cap3 j bad := by
  have h1 := h.lt
  have h2 := h.hB
  have h3 := block_lt h.g
  obtain ⟨hRow6, g6, hk6, _⟩ := kids_step (lo := 0) ho (fun q e => (h.own q e).1) hn hy (fun q hq => by omega) (fun q hq => by omega) (fun q e => Nat.zero_le _) (Nat.zero_le _) h.g hown hgrow hat hW4
  have hS : ∀ q, (q = t ∨ some q = Value.ownBlock (.slice b ks.length cap)) → B < q := by
    intro q e
    rcases e with e | e
    · omega
    · have := (h.own _ e.symm).1; omega
  exact ⟨g6, hRow6, h.R.keep hk6 (fun q hq e => by have := hS q e; omega), h.X.keep hk6 (fun q e => by have := hS q e; omega), h.T.keep hk6 (fun q hq e => by have := hS q e; omega), h1, h2⟩
theorem dfun_at (f : Nat) (hf : f ≤ 90000) : DFun f := by
  cases f with
  | zero => exact fun _ _ _ _ _ _ _ _ _ h => by cases h
  | succ f => exact dfun_of f (by omega) (dblk_all f (by omega))
/-- Between two functions. -/
def PaI (t B : Nat) (w : World) (bl : Option Addr) (ts : List Tok) (r : PRes) (k : Nat) (wr : World) : Prop :=
  ∃ (ks : List Nd) (b : Option Addr) (cap j : Nat) (bad : Bool), NP w B t bl ts wr ks b cap j bad ∧ k ≤ 64012 ∧ ks.length + k ≤ 64012 ∧ Fl ts (fun j => r = .inl (rest ts j)) r j bad (fun l => P k 12 (nd 1 ks) 0 l)
set_option maxRecDepth 20000 in
set_option maxHeartbeats 1000000 in
theorem rparse_bad (s : ByteArray) (c : Int) (a : Nat) (w : World) (hR : scanAll s.data.toList = .inl (c, a)) : Calls Tryz.prog 8 #[.string s] w (POut w (.inl (c, a))) := by
  have hc := code_of hR
  have hq : (c == 0) = false := by simpa using hc
  have hPX := px_new w
  have hS : Calls Tryz.prog 15 #[.string s] ((w.alloc zbx).alloc (.cells #[.int .i64 0, .int .i64 0] 27)) fun e w' => (∃ b n d, e = .returned (.tuple #[.slice b n d, .agg #[.int .i64 c, .int .i64 (a : Nat)]])) ∧ Below ((w.alloc zbx).alloc (.cells #[.int .i64 0, .int .i64 0] 27)).heap.size ((w.alloc zbx).alloc (.cells #[.int .i64 0, .int .i64 0] 27)) w' := (rscan_any s _).mono fun e w' h => by
    rw [hR] at h
    obtain ⟨⟨b, n, d, h1, _⟩, h2⟩ := h
    exact ⟨⟨b, n, d, h1⟩, h2⟩
  clear hR
  go_enter Tryz.func8, Tryz.ntmps8
  go_wp2_with (go_at_call 15; refine hS.mono ?_; rintro e w1 ⟨⟨b1, n1, d1, rfl⟩, hb1⟩; refine Hid.out ?_)
  have hP1 := hPX.on hb1
  have hP2 := hP1.on (ext_alloc (Below.refl _ _) (.cells #[.int .i64 c, .int .i64 (a : Nat)] 27))
  obtain ⟨c0, c1, c2, c3, f0, f1, f2, f3⟩ := in4 hP1.g0
  obtain ⟨x0, x1, x2, x3, y0, y1, y2, y3⟩ := in4a hP1.g0
  obtain ⟨p0, p1, q0, q1⟩ := in2 hP1.g1
  have r0 := fun o => (in2 (block_alloc o hP1.g1)).c0
  have r1 := fun o => (in2 (block_alloc o hP1.g1)).c1
  have r2 := fun o => (in2 (block_alloc o hP1.g1)).f0
  have r3 := fun o => (in2 (block_alloc o hP1.g1)).f1
  have hz := block_lt hP1.g1
  have n1' : ¬ w.heap.size = w1.heap.size := by omega
  have n2' : ¬ w1.heap.size = w.heap.size := by omega
  have n3' : ¬ w.heap.size + 1 = w1.heap.size := by omega
  have n4' : ¬ w1.heap.size = w.heap.size + 1 := by omega
  refine Lib.hid ?_
  go_wp2
  go_region_with (fail)
  all_goals
    go_wp2
    obtain ⟨X, hX⟩ : ∃ X, ((((((w1.alloc (.cells #[.int .i64 c, .int .i64 (a : Nat)] 27)).setCell ⟨w.heap.size, 0, none⟩ (.int .i64 0)).setCell ⟨w.heap.size, 1, none⟩ (.string ⟨#[]⟩)).setCell ⟨w.heap.size, 2, none⟩ (.int .i64 0)).setCell ⟨w.heap.size, 3, none⟩ (.slice none 0 0)).setCell ⟨w.heap.size + 1, 0, none⟩ (.int .i64 c)).setCell ⟨w.heap.size + 1, 1, none⟩ (.int .i64 (a : Nat)) = X := ⟨_, rfl⟩
    obtain ⟨z1, z2, z3⟩ := px_fault hP2 c a hX
    rw [hX]
    clear hX
    exact bodyPost_ret (resP8 (W := X.drew) rfl rfl z1 z2) rfl ⟨rfl, z3.drew⟩
theorem tok_block {base : Nat} {W : World} {b : Option Addr} {n d : Nat} {ts : List Tok} (h : W.ownsRow base 44 3 (.slice b n d) ts.length (flatT ts)) (q : Nat) (hb : b = some ⟨q, 0, none⟩) (o : Obj) (m : Nat) (ho : W.heap[m]? = some o) (hne : ∀ cur z, o ≠ .cells cur 44 z) : q ≠ m := by
  rcases h.2 with ⟨e, h0⟩ | ⟨g, cap, cur, e, _, hg, _⟩
  · cases e; cases hb
  · cases e
    cases hb
    intro e
    subst e
    rw [hg] at ho
    exact hne _ _ (Option.some.inj ho).symm
set_option maxRecDepth 20000 in
set_option maxHeartbeats 2000000 in
theorem rparse_go (s : ByteArray) (ts : List Tok) (r : PRes) (Rz : (Int × Nat) ⊕ Nd) (w : World) (hR : scanAll s.data.toList = .inr ts) (hP : P 64012 12 (nd 1 []) 0 (ts.map pt) = some r) (hA : ∀ j, j ≤ ts.length → r = .inl (rest ts j) → Rz = .inl (2, fpos ts s.size j)) (hB : ∀ n l, r = .inr (n, l) → Rz = if fitB n then .inr n else .inl (1, 0)) : Calls Tryz.prog 8 #[.string s] w (POut w Rz) := by
  obtain ⟨hlen, hV, _⟩ := toks_of hR
  obtain ⟨i0, hi0, hz0, hz1', hz2⟩ := info_parts info24
  have hPX := px_new w
  have hS : Calls Tryz.prog 15 #[.string s] ((w.alloc zbx).alloc (.cells #[.int .i64 0, .int .i64 0] 27)) fun e w' => (∃ b d, e = .returned (.tuple #[.slice b ts.length d, .agg #[.int .i64 0, .int .i64 0]]) ∧ ts.length ≤ d ∧ TokAt w' b ts w'.heap.size ∧ (∀ q, b = some ⟨q, 0, none⟩ → ¬ q = w.heap.size ∧ ¬ q = w.heap.size + 1)) ∧ Below ((w.alloc zbx).alloc (.cells #[.int .i64 0, .int .i64 0] 27)).heap.size ((w.alloc zbx).alloc (.cells #[.int .i64 0, .int .i64 0] 27)) w' := (rscan_any s _).mono fun e w' h => by
    rw [hR] at h
    obtain ⟨⟨b, n, d, h1, h3⟩, h2⟩ := h
    obtain ⟨rfl, h4, h5⟩ := tokAt_of h3
    have hp := hPX.on h2
    exact ⟨⟨b, d, h1, h4, h5, fun q hq => ⟨tok_block h3 q hq _ _ hp.g0 (fun _ _ e => by cases e), tok_block h3 q hq _ _ hp.g1 (fun _ _ e => by cases e)⟩⟩, h2⟩
  clear hR
  obtain ⟨L, hL⟩ : ∃ L, ts.length = L := ⟨_, rfl⟩
  rw [hL] at hS
  go_enter Tryz.func8, Tryz.ntmps8
  go_wp2_with (go_at_call 15; refine hS.mono ?_; rintro e w1 ⟨⟨b1, d1, rfl, hd1, hT1, hQ⟩, hb1⟩; refine Hid.out ?_)
  have hP1 := hPX.on hb1
  have hz1 := block_lt hP1.g1
  have hb2 := ext_alloc (Below.refl w1.heap.size w1) (.cells #[.int .i64 0, .int .i64 0] 27)
  have hb3 := ext_alloc (Below.refl _ (w1.alloc (.cells #[.int .i64 0, .int .i64 0] 27))) (dbx b1 L d1 0 false)
  have hb4 := ext_alloc (Below.refl _ ((w1.alloc (.cells #[.int .i64 0, .int .i64 0] 27)).alloc (dbx b1 L d1 0 false))) (nbx (nd 1 []) none 0)
  have hbA := ext_trans (ext_trans hb2 hb3) hb4
  have gB := alloc_new (w1.alloc (.cells #[.int .i64 0, .int .i64 0] 27)) (dbx b1 L d1 0 false)
  have gt := alloc_new ((w1.alloc (.cells #[.int .i64 0, .int .i64 0] 27)).alloc (dbx b1 L d1 0 false)) (nbx (nd 1 []) none 0)
  rw [World.size_alloc] at gB
  rw [World.size_alloc, World.size_alloc] at gt
  have hTA := hT1.keep (Keeps.of_below (S := fun _ => False) hbA) (fun _ _ => id)
  have hI : PaI (w1.heap.size + 1 + 1) (w1.heap.size + 1) w b1 ts r 64012 (((w1.alloc (.cells #[.int .i64 0, .int .i64 0] 27)).alloc (dbx b1 L d1 0 false)).alloc (nbx (nd 1 []) none 0)) := by
    refine ⟨[], none, 0, 0, false, ⟨gt, Row.nil _ _, ⟨⟨b1, d1, ?_, hTA.mono (by omega), by rw [hL]; exact hd1⟩, by omega, by omega⟩, hP1.on hbA, hTA.mono (by omega), by omega, by omega⟩, by omega, by simp, .inr ⟨rfl, ?_⟩⟩
    · rw [hL]
      exact block_below hb4 gB
    · exact hP
  obtain ⟨B, hBe⟩ : ∃ m, w1.heap.size + 1 = m := ⟨_, rfl⟩
  rw [hBe] at hI
  obtain ⟨t, hte⟩ : ∃ m, B + 1 = m := ⟨_, rfl⟩
  rw [hte] at hI
  have hBt : B < t := by omega
  clear hP hS hb1 hP1 hPX hb2 hb3 hb4 hbA gB gt hTA hT1 hz1
  refine Lib.hid ?_
  go_wp2
  clear hte hBe
  go_loopg [8] 64012 (fun k _ wr => PaI t B w b1 ts r k wr)
  case atStart => exact hI
  case round =>
    obtain ⟨ks, b, cap, j, bad, hN, hgf, hle, hFl⟩ := hrel
    clear hI
    have hR1 := hN.R
    obtain ⟨c0, c1, c2, c3, f0, f1, f2, f3⟩ := in4 hN.g
    obtain ⟨b', cap', s0, s1, s2, v1, v2⟩ := hR1.cells
    have hjl := hR1.le
    rw [hL] at hjl
    rcases hFl with ⟨rfl, hFi⟩ | ⟨rfl, hP⟩
    · obtain rfl := hA j hR1.le hFi
      clear hA hB hFi
      obtain ⟨k0, k1, k2, k3, l0, l1, l2, l3⟩ := in4 hN.X.g0
      obtain ⟨p0, p1, q0, q1⟩ := in2 hN.X.g1
      by_cases hlt : j < L
      · have hdec : decide (j < L) = true := decide_eq_true hlt
        obtain ⟨x, hx⟩ : ∃ x, ts[j]? = some x := ⟨_, List.getElem?_eq_getElem (by omega)⟩
        obtain ⟨kx, tx0, ax⟩ := x
        have hfp : fpos ts s.size j = ax := by unfold fpos; rw [hx]
        rcases hN.T with h0 | ⟨q, rfl, hq1, hq2, hcells⟩
        · rw [h0] at hx; simp at hx
        have t0 : wr.cell? ⟨q, j * 3, none⟩ = some (.int .i64 kx) := hcells j _ hx 0 _ rfl
        have t1 := hcells j _ hx 1 _ rfl
        have t2 := hcells j _ hx 2 _ rfl
        dsimp only at t1 t2
        have hge : decide (L ≤ j) = false := decide_eq_false (by omega)
        have hi' : (j : Int) < (L : Int) := by omega
        have m1 : ¬ B = w.heap.size := by have := hN.hB; omega
        have m2 : ¬ w.heap.size = B := by omega
        have m3 := (hQ q rfl).1
        have m4 : ¬ w.heap.size = q := fun e => m3 e.symm
        have m5 : ¬ B = w.heap.size + 1 := by have := hN.hB; omega
        have m6 : ¬ w.heap.size + 1 = B := by omega
        have m7 := (hQ q rfl).2
        have m8 : ¬ w.heap.size + 1 = q := fun e => m7 e.symm
        clear hcells hx
        replace hfp : Hid _ := hfp
        go_wp2
        go_region_held3 (fun u => u.cell? ⟨B, 1, none⟩ = some (.int .i64 (j : Nat)) ∧ u.cell? ⟨q, j * 3 + 2, none⟩ = some (.int .i64 (ax : Nat))) (go_keep) (fail)
        obtain ⟨X, hX⟩ : ∃ X, (((((wr.setCell ⟨w.heap.size, 0, none⟩ (.int .i64 0)).setCell ⟨w.heap.size, 1, none⟩ (.string ⟨#[]⟩)).setCell ⟨w.heap.size, 2, none⟩ (.int .i64 0)).setCell ⟨w.heap.size, 3, none⟩ (.slice none 0 0)).setCell ⟨w.heap.size + 1, 0, none⟩ (.int .i64 2)).setCell ⟨w.heap.size + 1, 1, none⟩ (.int .i64 (ax : Nat)) = X := ⟨_, rfl⟩
        obtain ⟨z1, z2, z3⟩ := px_fault hN.X 2 ax hX
        try rw [hX]
        clear hX
        rw [← hfp.out] at z2
        go_wp2
        exact bodyPost_ret (resP8 (W := X.drew) rfl rfl z1 z2) rfl ⟨rfl, z3.drew⟩
      · have hdec : decide (j < L) = false := decide_eq_false hlt
        have hfp : fpos ts s.size j = s.size := by unfold fpos; rw [List.getElem?_eq_none (by omega)]
        replace hfp : Hid _ := hfp
        go_wp2
        obtain ⟨X, hX⟩ : ∃ X, (((((wr.setCell ⟨w.heap.size, 0, none⟩ (.int .i64 0)).setCell ⟨w.heap.size, 1, none⟩ (.string ⟨#[]⟩)).setCell ⟨w.heap.size, 2, none⟩ (.int .i64 0)).setCell ⟨w.heap.size, 3, none⟩ (.slice none 0 0)).setCell ⟨w.heap.size + 1, 0, none⟩ (.int .i64 2)).setCell ⟨w.heap.size + 1, 1, none⟩ (.int .i64 (s.size : Nat)) = X := ⟨_, rfl⟩
        obtain ⟨z1, z2, z3⟩ := px_fault hN.X 2 s.size hX
        try rw [hX]
        clear hX
        rw [← hfp.out] at z2
        exact bodyPost_ret (resP8 rfl rfl z1 z2) rfl ⟨rfl, z3⟩
    clear hA
    cases gk with
    | zero => cases hP
    | succ k =>
    dsimp only at hP
    rw [P] at hP
    by_cases hend : j = L
    · subst hend
      rw [if_pos (rest_end (by omega))] at hP
      have hRz := hB _ _ (Option.some.inj hP).symm
      clear hP hB
      have hdec : decide (j < j) = false := decide_eq_false (by omega)
      have hNd : NdV (fun q => t < q) wr (nd 1 ks) (ndv (nd 1 ks) b cap) := hN.row.node 1 [] 0
      have hFt := rfits_any _ (nd 1 ks) b cap wr hNd
      cases hfb : fitB (nd 1 ks) with
      | true =>
        rw [hfb] at hFt hRz
        rw [if_pos rfl] at hRz
        subst hRz
        go_wp2_with (go_at_call 17; refine hFt.mono ?_; rintro e w5 ⟨rfl, hb5⟩; refine Hid.out ?_)
        have hN5 := hN.below hb5
        have hNd5 := hNd.below hb5
        obtain ⟨c0, c1, c2, c3, f0, f1, f2, f3⟩ := in4 hN5.g
        obtain ⟨k0, k1, k2, k3, l0, l1, l2, l3⟩ := in4 hN5.X.g0
        obtain ⟨p0, p1, q0, q1⟩ := in2 hN5.X.g1
        have hBs := hN.hB
        refine Lib.hid ?_
        go_wp2
        have hkA : Keeps (fun q => q = w.heap.size ∨ q = w.heap.size + 1) w5 (pu2 (put4 w5 w.heap.size (.int .i64 1) (sk []) (.int .i64 0) (.slice b ks.length cap)) (w.heap.size + 1) (.int .i64 0) (.int .i64 0)) := ((put4_self _ _ _ _ _ _).mono (fun q _ e => .inl e)).then (pu2_self _ _ _ _) (fun q _ e => .inr e)
        have z1 : (pu2 (put4 w5 w.heap.size (.int .i64 1) (sk []) (.int .i64 0) (.slice b ks.length cap)) (w.heap.size + 1) (.int .i64 0) (.int .i64 0)).heap[w.heap.size]? = some (nbx (nd 1 ks) b cap) := (pu2_other _ _ (by omega)).trans (put4_same _ _ _ _ hN5.X.g0)
        have z2 : (pu2 (put4 w5 w.heap.size (.int .i64 1) (sk []) (.int .i64 0) (.slice b ks.length cap)) (w.heap.size + 1) (.int .i64 0) (.int .i64 0)).heap[w.heap.size + 1]? = some (.cells #[.int .i64 0, .int .i64 0] 27) := pu2_same _ _ ((put4_other _ _ _ _ (by omega)).trans hN5.X.g1)
        have z3 := ((Keeps.of_below (S := no) hN5.X.bl).then hkA (fun q hq e => by omega)).below (Nat.le_refl _) (fun _ _ => id)
        refine bodyPost_ret (resP8 rfl rfl z1 z2) rfl ⟨⟨hfb, b, cap, rfl, ?_⟩, z3⟩
        exact (hNd5.keep hkA (fun q hq _ e => by omega)).weak (fun q hq _ => by omega)
      | false =>
        rw [hfb] at hFt hRz
        rw [if_neg (by decide)] at hRz
        subst hRz
        go_wp2_with (go_at_call 17; refine hFt.mono ?_; rintro e w5 ⟨rfl, hb5⟩; refine Hid.out ?_)
        have hN5 := hN.below hb5
        obtain ⟨k0, k1, k2, k3, l0, l1, l2, l3⟩ := in4 hN5.X.g0
        obtain ⟨p0, p1, q0, q1⟩ := in2 hN5.X.g1
        refine Lib.hid ?_
        go_wp2
        obtain ⟨X, hX⟩ : ∃ X, (((((w5.setCell ⟨w.heap.size, 0, none⟩ (.int .i64 0)).setCell ⟨w.heap.size, 1, none⟩ (.string ⟨#[]⟩)).setCell ⟨w.heap.size, 2, none⟩ (.int .i64 0)).setCell ⟨w.heap.size, 3, none⟩ (.slice none 0 0)).setCell ⟨w.heap.size + 1, 0, none⟩ (.int .i64 1)).setCell ⟨w.heap.size + 1, 1, none⟩ (.int .i64 0) = X := ⟨_, rfl⟩
        obtain ⟨z1, z2', z3⟩ := px_fault hN5.X 1 0 hX
        have z2 : X.heap[w.heap.size + 1]? = some (.cells #[.int .i64 1, .int .i64 0] 27) := z2'
        clear z2'
        try rw [hX]
        clear hX
        exact bodyPost_ret (resP8 rfl rfl z1 z2) rfl ⟨rfl, z3⟩
    · have hlt : j < L := by omega
      have hne : rest ts j ≠ [] := fun e => by have := rest_len ts j; rw [e, hL] at this; simp at this; omega
      rw [if_neg hne] at hP
      have hdec : decide (j < L) = true := decide_eq_true hlt
      have hcall := fun u (h : Dr u B ts j false) => dfun_at k (by omega) r (fun j => r = .inl (rest ts j)) _ B ts j u ⟨hV, fun j _ h => h⟩ h hP
      clear hP hB
      go_wp2_with (first | (go_at_call 16; refine (hcall _ hR1).mono ?_; rintro e w4 ⟨y, by1, cy, j4, bad4, rfl, hN4, hR4, hk4, hFl4⟩; refine Hid.out ?_))
      have hNP4 := hN.on hk4 hR4
      obtain ⟨c0, c1, c2, c3, f0, f1, f2, f3⟩ := in4 hNP4.g
      obtain ⟨x0, x1, x2, x3, y0, y1, y2, y3⟩ := in4a hNP4.g
      clear hcall
      refine Lib.hid ?_
      go_wp2_with (at_builtin; refine Hid.out ?_)
      have hb5 := ext_alloc (ext_alloc (Below.refl w4.heap.size w4) (nbx y by1 cy)) (nbx y by1 cy)
      have hnew := alloc_new (w4.alloc (nbx y by1 cy)) (nbx y by1 cy)
      rw [World.size_alloc] at hnew
      have hN5 := hNP4.below hb5
      have hz4 := block_lt hN.g
      have hown4 := hN.own
      have hy5 : NdV (fun q => t < q ∧ some q ≠ Value.ownBlock (.slice b ks.length cap)) ((w4.alloc (nbx y by1 cy)).alloc (nbx y by1 cy)) y (ndv y by1 cy) := (hN4.weak (fun q hq _ => by have := hq.resolve_left id; exact ⟨by omega, fun e => by have := (hown4 q e.symm).2; omega⟩)).below hb5
      obtain ⟨Wq, hWq⟩ : ∃ V, (w4.alloc (nbx y by1 cy)).alloc (nbx y by1 cy) = V := ⟨_, rfl⟩
      rw [hWq] at hnew hN5 hy5
      replace hWq : (w4.alloc (.cells #[.int .i64 y.k, .string ⟨y.t.toArray⟩, .int .i64 y.n, .slice by1 y.kids.length cy] 24)).alloc (.cells #[.int .i64 y.k, .string ⟨y.t.toArray⟩, .int .i64 y.n, .slice by1 y.kids.length cy] 24) = Wq := hWq
      rw [hWq]
      obtain ⟨xs, ho, _, hn⟩ := hN5.row.own
      have q35 := hN5.g
      have hne3 : some t ≠ Value.ownBlock (.slice b ks.length cap) := fun e => by have := (hN5.own _ e.symm).1; omega
      have hn1 : ks.length + 1 ≤ maxLen := by unfold maxLen; omega
      have hb1 : (ks.length + 1) * 56 ≤ 140737488355328 := by omega
      clear hWq hb5 c0 c1 c2 c3 f0 f1 f2 f3 x0 x1 x2 x3 y0 y1 y2 y3 hN hN4 hR1 hR4 hk4 hNP4 s0 s1 s2 v1 v2 hown4
      refine Lib.hid ?_
      go_wp2_with (at_builtin; refine wpList_append_lies _ (by rfl) _ _ _ (by rfl) 0 24 i0 _ 4 56 Tryz.underlying22 hi0 hz0 hz1' hz2 rfl (by omega) (.slice b ks.length cap) ks.length _ (by rfl) ho ⟨w4.heap.size + 1, 0, none⟩ 1 1 _ (by rfl) (by rfl) (cells_of y by1 cy hnew) (by simp [Value.oneCell']) (by omega) hn1 hb1 (Nat.zero_le _) _ rfl ?_; intro g3 cap3 w5 hown1 hgrow hat1 hlt1; have p3w := (hgrow.block _ (block_lt q35) hne3).trans q35; obtain ⟨c0, c1, c2, c3, f0, f1, f2, f3⟩ := in4 p3w)
      have hN6 := hN5.app ho hn hy5 hown1 hgrow hat1 rfl
      go_roundg k
      case measure => omega
      case rel => exact ⟨ks ++ [y], _, _, j4, bad4, hN6, by omega, by simp; omega, hFl4⟩
theorem rparse_any (s : ByteArray) (w : World) : Calls Tryz.prog 8 #[.string s] w (POut w (parseR s.data.toList)) := by
  have esz : s.size = s.data.toList.length := by simp
  cases hR : scanAll s.data.toList with
  | inl x =>
    obtain ⟨c, a⟩ := x
    unfold parseR
    rw [hR]
    exact rparse_bad s c a w hR
  | inr ts =>
    obtain ⟨_, _, r, hr⟩ := toks_of hR
    refine rparse_go s ts r _ w hR hr ?_ ?_
    · intro j hj e
      unfold parseR
      simp only [hR, hr, e]
      rw [rest_len, esz, show ts.length - (ts.length - j) = j by omega]
    · intro n l e
      unfold parseR
      simp only [hR, hr, e]
end Go.Proofs.YtbofdfdmikhanaaGreatDoor
