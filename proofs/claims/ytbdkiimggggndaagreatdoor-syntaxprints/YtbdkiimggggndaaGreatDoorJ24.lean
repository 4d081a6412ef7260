/- The program's writer: statements. The program's writer: a block, a choice. The program's writer: a choice. The program's writer: a function, a program. The program's Print of a program. -/
import Derived.Test.YtbdkiimggggndaaGreatDoorJ22
import Derived.Test.YtbdkiimggggndaaGreatDoorJ21
import Derived.Test.YtbdkiimggggndaaGreatDoorJ13
namespace Go.Proofs.YtbdkiimggggndaaGreatDoor
open Go.RowKit
open Go

theorem bs_local (t : List UInt8) (n : Int) (y0 : Nd) : bsN ⟨5, t, n, [y0]⟩ = [W.local_, t, S.eq] ++ (bsN y0 ++ [S.sc]) := by
  unfold bsN
  rw [show_local]
  simp [bytesOf]
set_option maxRecDepth 20000 in
set_option maxHeartbeats 2000000 in
theorem xs_local (t : List UInt8) (n : Int) (y0 : Nd) (h0 : Puts 125 y0 (bsN y0)) : Puts 104 ⟨5, t, n, [y0]⟩ (bsN ⟨5, t, n, [y0]⟩) := by
  intro m D b cap w0 B ts V hF hN hT hlen
  rw [bs_local] at hlen ⊢
  simp only [List.length_append, List.length_cons, List.length_nil] at hlen
  have hb0 := ext_alloc (Below.refl V.heap.size V) (nbx ⟨5, t, n, [y0]⟩ b cap)
  have hT0 := hT.on hb0
  have hX0 := bx_new hT ⟨5, t, n, [y0]⟩ b cap
  obtain ⟨U, hU⟩ : ∃ U, V.alloc (nbx ⟨5, t, n, [y0]⟩ b cap) = U := ⟨_, rfl⟩
  rw [hU] at hT0 hX0 hb0
  replace hU : V.alloc (.cells #[.int .i64 5, sk t, .int .i64 n, .slice b 1 cap] 24) = U := hU
  have hKA := KA.of hN
  have hcap : 1 ≤ cap := hKA.1
  obtain ⟨g, off, b0, cap0, rfl, v00, v01, v02, v03, hV0⟩ := KA.at hKA (j := 0) rfl
  rw [show off + 0 * 4 = off by omega] at v00 v01 v02 v03
  obtain ⟨c0, c1, c2, c3, f0, f1, f2, f3⟩ := in4 hX0.g
  dsimp only [List.length_cons, List.length_nil] at c3
  have a00 := cellB hT0.bl v00
  have a01 := cellB hT0.bl v01
  have a02 := cellB hT0.bl v02
  have a03 := cellB hT0.bl v03
  have hc2 := fun u (h : Wt w0 B m (ts ++ [[108, 111, 99, 97, 108], t, [61]]) u) => (wgiven_of y0 h0) m D b0 cap0 w0 B (ts ++ [[108, 111, 99, 97, 108], t, [61]]) u hF hV0 h (by first | omega | (simp; omega))
  go_enter Tryz.func104, Tryz.ntmps104
  go_wp2_with (first | (go_at_call 124; refine (hc2 _ q1.t).mono ?_; rintro e w2 q2; have e2 := q2.e; subst e2; have hX2 := hX1.on q2; obtain ⟨c0, c1, c2, c3, f0, f1, f2, f3⟩ := in4 hX2.g; dsimp only [List.length_cons, List.length_nil] at c3; have a00 := cellB q2.t.bl v00; have a01 := cellB q2.t.bl v01; have a02 := cellB q2.t.bl v02; have a03 := cellB q2.t.bl v03) | (go_at_call 77; refine (hT0.put3 [108, 111, 99, 97, 108] t [61] (by omega)).mono ?_; rintro e w1 q1; have e1 := q1.e; subst e1; have hX1 := hX0.on q1; obtain ⟨c0, c1, c2, c3, f0, f1, f2, f3⟩ := in4 hX1.g; dsimp only [List.length_cons, List.length_nil] at c3; have a00 := cellB q1.t.bl v00; have a01 := cellB q1.t.bl v01; have a02 := cellB q1.t.bl v02; have a03 := cellB q1.t.bl v03))
  go_end0
  simpa using (q1.then q2).of hT hb0
theorem bs_set (t : List UInt8) (n : Int) (y0 y1 : Nd) : bsN ⟨6, t, n, [y0, y1]⟩ = bsN y0 ++ ([S.eq] ++ (bsN y1 ++ [S.sc])) := by
  unfold bsN
  rw [show_set]
  simp [bytesOf]
set_option maxRecDepth 20000 in
set_option maxHeartbeats 2000000 in
theorem xs_set (t : List UInt8) (n : Int) (y0 y1 : Nd) (h0 : Puts 125 y0 (bsN y0)) (h1 : Puts 125 y1 (bsN y1)) : Puts 104 ⟨6, t, n, [y0, y1]⟩ (bsN ⟨6, t, n, [y0, y1]⟩) := by
  intro m D b cap w0 B ts V hF hN hT hlen
  rw [bs_set] at hlen ⊢
  simp only [List.length_append, List.length_cons, List.length_nil] at hlen
  have hb0 := ext_alloc (Below.refl V.heap.size V) (nbx ⟨6, t, n, [y0, y1]⟩ b cap)
  have hT0 := hT.on hb0
  have hX0 := bx_new hT ⟨6, t, n, [y0, y1]⟩ b cap
  obtain ⟨U, hU⟩ : ∃ U, V.alloc (nbx ⟨6, t, n, [y0, y1]⟩ b cap) = U := ⟨_, rfl⟩
  rw [hU] at hT0 hX0 hb0
  replace hU : V.alloc (.cells #[.int .i64 6, sk t, .int .i64 n, .slice b 2 cap] 24) = U := hU
  have hKA := KA.of hN
  have hcap : 2 ≤ cap := hKA.1
  obtain ⟨g, off, b0, cap0, rfl, v00, v01, v02, v03, hV0⟩ := KA.at hKA (j := 0) rfl
  rw [show off + 0 * 4 = off by omega] at v00 v01 v02 v03
  obtain ⟨g', off', b1, cap1, e', v10, v11, v12, v13, hV1⟩ := KA.at hKA (j := 1) rfl
  cases e'
  rw [show off + 1 * 4 = off + 4 by omega] at v10 v11 v12 v13
  obtain ⟨c0, c1, c2, c3, f0, f1, f2, f3⟩ := in4 hX0.g
  dsimp only [List.length_cons, List.length_nil] at c3
  have a00 := cellB hT0.bl v00
  have a01 := cellB hT0.bl v01
  have a02 := cellB hT0.bl v02
  have a03 := cellB hT0.bl v03
  have a10 := cellB hT0.bl v10
  have a11 := cellB hT0.bl v11
  have a12 := cellB hT0.bl v12
  have a13 := cellB hT0.bl v13
  have hc1 := fun u (h : Wt w0 B m (ts) u) => h0 m D b0 cap0 w0 B (ts) u hF hV0 h (by first | omega | (simp; omega))
  have hc3 := fun u (h : Wt w0 B m (ts ++ (bsN y0) ++ [[61]]) u) => (wgiven_of y1 h1) m D b1 cap1 w0 B (ts ++ (bsN y0) ++ [[61]]) u hF hV1 h (by first | omega | (simp; omega))
  go_enter Tryz.func104, Tryz.ntmps104
  go_wp2_with (first | (go_at_call 124; refine (hc3 _ q2.t).mono ?_; rintro e w3 q3; have e3 := q3.e; subst e3; have hX3 := hX2.on q3; obtain ⟨c0, c1, c2, c3, f0, f1, f2, f3⟩ := in4 hX3.g; dsimp only [List.length_cons, List.length_nil] at c3; have a00 := cellB q3.t.bl v00; have a01 := cellB q3.t.bl v01; have a02 := cellB q3.t.bl v02; have a03 := cellB q3.t.bl v03; have a10 := cellB q3.t.bl v10; have a11 := cellB q3.t.bl v11; have a12 := cellB q3.t.bl v12; have a13 := cellB q3.t.bl v13) | (go_at_call 77; refine (q1.t.put1 [61] (by simp; omega)).mono ?_; rintro e w2 q2; have e2 := q2.e; subst e2; have hX2 := hX1.on q2; obtain ⟨c0, c1, c2, c3, f0, f1, f2, f3⟩ := in4 hX2.g; dsimp only [List.length_cons, List.length_nil] at c3; have a00 := cellB q2.t.bl v00; have a01 := cellB q2.t.bl v01; have a02 := cellB q2.t.bl v02; have a03 := cellB q2.t.bl v03; have a10 := cellB q2.t.bl v10; have a11 := cellB q2.t.bl v11; have a12 := cellB q2.t.bl v12; have a13 := cellB q2.t.bl v13) | (go_at_call 125; refine (hc1 _ hT0).mono ?_; rintro e w1 q1; have e1 := q1.e; subst e1; have hX1 := hX0.on q1; obtain ⟨c0, c1, c2, c3, f0, f1, f2, f3⟩ := in4 hX1.g; dsimp only [List.length_cons, List.length_nil] at c3; have a00 := cellB q1.t.bl v00; have a01 := cellB q1.t.bl v01; have a02 := cellB q1.t.bl v02; have a03 := cellB q1.t.bl v03; have a10 := cellB q1.t.bl v10; have a11 := cellB q1.t.bl v11; have a12 := cellB q1.t.bl v12; have a13 := cellB q1.t.bl v13))
  go_end0
  simpa using ((q1.then q2).then q3).of hT hb0
theorem bs_do (t : List UInt8) (n : Int) (y0 : Nd) : bsN ⟨7, t, n, [y0]⟩ = bsN y0 ++ [S.sc] := by
  unfold bsN
  rw [show_do]
  simp [bytesOf]
set_option maxRecDepth 20000 in
set_option maxHeartbeats 2000000 in
theorem xs_do (t : List UInt8) (n : Int) (y0 : Nd) (h0 : Puts 125 y0 (bsN y0)) : Puts 104 ⟨7, t, n, [y0]⟩ (bsN ⟨7, t, n, [y0]⟩) := by
  intro m D b cap w0 B ts V hF hN hT hlen
  rw [bs_do] at hlen ⊢
  simp only [List.length_append, List.length_cons, List.length_nil] at hlen
  have hb0 := ext_alloc (Below.refl V.heap.size V) (nbx ⟨7, t, n, [y0]⟩ b cap)
  have hT0 := hT.on hb0
  have hX0 := bx_new hT ⟨7, t, n, [y0]⟩ b cap
  obtain ⟨U, hU⟩ : ∃ U, V.alloc (nbx ⟨7, t, n, [y0]⟩ b cap) = U := ⟨_, rfl⟩
  rw [hU] at hT0 hX0 hb0
  replace hU : V.alloc (.cells #[.int .i64 7, sk t, .int .i64 n, .slice b 1 cap] 24) = U := hU
  have hKA := KA.of hN
  have hcap : 1 ≤ cap := hKA.1
  obtain ⟨g, off, b0, cap0, rfl, v00, v01, v02, v03, hV0⟩ := KA.at hKA (j := 0) rfl
  rw [show off + 0 * 4 = off by omega] at v00 v01 v02 v03
  obtain ⟨c0, c1, c2, c3, f0, f1, f2, f3⟩ := in4 hX0.g
  dsimp only [List.length_cons, List.length_nil] at c3
  have a00 := cellB hT0.bl v00
  have a01 := cellB hT0.bl v01
  have a02 := cellB hT0.bl v02
  have a03 := cellB hT0.bl v03
  have hc1 := fun u (h : Wt w0 B m (ts) u) => (wgiven_of y0 h0) m D b0 cap0 w0 B (ts) u hF hV0 h (by first | omega | (simp; omega))
  go_enter Tryz.func104, Tryz.ntmps104
  go_wp2_with (first | (go_at_call 124; refine (hc1 _ hT0).mono ?_; rintro e w1 q1; have e1 := q1.e; subst e1; have hX1 := hX0.on q1; obtain ⟨c0, c1, c2, c3, f0, f1, f2, f3⟩ := in4 hX1.g; dsimp only [List.length_cons, List.length_nil] at c3; have a00 := cellB q1.t.bl v00; have a01 := cellB q1.t.bl v01; have a02 := cellB q1.t.bl v02; have a03 := cellB q1.t.bl v03))
  go_end0
  simpa using q1.of hT hb0
theorem bs_while (t : List UInt8) (n : Int) (y0 y1 : Nd) : bsN ⟨9, t, n, [y0, y1]⟩ = [W.while_] ++ (bsN y0 ++ ([W.do_] ++ (bsN y1 ++ [W.end_]))) := by
  unfold bsN
  rw [show_while]
  simp [bytesOf]
set_option maxRecDepth 20000 in
set_option maxHeartbeats 2000000 in
theorem xs_while (t : List UInt8) (n : Int) (y0 y1 : Nd) (h0 : Puts 125 y0 (bsN y0)) (h1 : Puts 78 y1 (bsN y1)) : Puts 104 ⟨9, t, n, [y0, y1]⟩ (bsN ⟨9, t, n, [y0, y1]⟩) := by
  intro m D b cap w0 B ts V hF hN hT hlen
  rw [bs_while] at hlen ⊢
  simp only [List.length_append, List.length_cons, List.length_nil] at hlen
  have hb0 := ext_alloc (Below.refl V.heap.size V) (nbx ⟨9, t, n, [y0, y1]⟩ b cap)
  have hT0 := hT.on hb0
  have hX0 := bx_new hT ⟨9, t, n, [y0, y1]⟩ b cap
  obtain ⟨U, hU⟩ : ∃ U, V.alloc (nbx ⟨9, t, n, [y0, y1]⟩ b cap) = U := ⟨_, rfl⟩
  rw [hU] at hT0 hX0 hb0
  replace hU : V.alloc (.cells #[.int .i64 9, sk t, .int .i64 n, .slice b 2 cap] 24) = U := hU
  have hKA := KA.of hN
  have hcap : 2 ≤ cap := hKA.1
  obtain ⟨g, off, b0, cap0, rfl, v00, v01, v02, v03, hV0⟩ := KA.at hKA (j := 0) rfl
  rw [show off + 0 * 4 = off by omega] at v00 v01 v02 v03
  obtain ⟨g', off', b1, cap1, e', v10, v11, v12, v13, hV1⟩ := KA.at hKA (j := 1) rfl
  cases e'
  rw [show off + 1 * 4 = off + 4 by omega] at v10 v11 v12 v13
  obtain ⟨c0, c1, c2, c3, f0, f1, f2, f3⟩ := in4 hX0.g
  dsimp only [List.length_cons, List.length_nil] at c3
  have a00 := cellB hT0.bl v00
  have a01 := cellB hT0.bl v01
  have a02 := cellB hT0.bl v02
  have a03 := cellB hT0.bl v03
  have a10 := cellB hT0.bl v10
  have a11 := cellB hT0.bl v11
  have a12 := cellB hT0.bl v12
  have a13 := cellB hT0.bl v13
  have hc2 := fun u (h : Wt w0 B m (ts ++ [[119, 104, 105, 108, 101]]) u) => h0 m D b0 cap0 w0 B (ts ++ [[119, 104, 105, 108, 101]]) u hF hV0 h (by first | omega | (simp; omega))
  have hc3 := fun u (h : Wt w0 B m (ts ++ [[119, 104, 105, 108, 101]] ++ (bsN y0)) u) => (wbody_of y1 h1) m D b1 cap1 w0 B (ts ++ [[119, 104, 105, 108, 101]] ++ (bsN y0)) u hF hV1 h (by first | omega | (simp; omega))
  go_enter Tryz.func104, Tryz.ntmps104
  go_wp2_with (first | (go_at_call 127; refine (hc3 _ q2.t).mono ?_; rintro e w3 q3; have e3 := q3.e; subst e3; have hX3 := hX2.on q3; obtain ⟨c0, c1, c2, c3, f0, f1, f2, f3⟩ := in4 hX3.g; dsimp only [List.length_cons, List.length_nil] at c3; have a00 := cellB q3.t.bl v00; have a01 := cellB q3.t.bl v01; have a02 := cellB q3.t.bl v02; have a03 := cellB q3.t.bl v03; have a10 := cellB q3.t.bl v10; have a11 := cellB q3.t.bl v11; have a12 := cellB q3.t.bl v12; have a13 := cellB q3.t.bl v13) | (go_at_call 125; refine (hc2 _ q1.t).mono ?_; rintro e w2 q2; have e2 := q2.e; subst e2; have hX2 := hX1.on q2; obtain ⟨c0, c1, c2, c3, f0, f1, f2, f3⟩ := in4 hX2.g; dsimp only [List.length_cons, List.length_nil] at c3; have a00 := cellB q2.t.bl v00; have a01 := cellB q2.t.bl v01; have a02 := cellB q2.t.bl v02; have a03 := cellB q2.t.bl v03; have a10 := cellB q2.t.bl v10; have a11 := cellB q2.t.bl v11; have a12 := cellB q2.t.bl v12; have a13 := cellB q2.t.bl v13) | (go_at_call 77; refine (hT0.put1 [119, 104, 105, 108, 101] (by omega)).mono ?_; rintro e w1 q1; have e1 := q1.e; subst e1; have hX1 := hX0.on q1; obtain ⟨c0, c1, c2, c3, f0, f1, f2, f3⟩ := in4 hX1.g; dsimp only [List.length_cons, List.length_nil] at c3; have a00 := cellB q1.t.bl v00; have a01 := cellB q1.t.bl v01; have a02 := cellB q1.t.bl v02; have a03 := cellB q1.t.bl v03; have a10 := cellB q1.t.bl v10; have a11 := cellB q1.t.bl v11; have a12 := cellB q1.t.bl v12; have a13 := cellB q1.t.bl v13))
  go_end0
  simpa using ((q1.then q2).then q3).of hT hb0
theorem bs_for (t : List UInt8) (n : Int) (y0 y1 y2 : Nd) : bsN ⟨10, t, n, [y0, y1, y2]⟩ = [W.for_, t, S.eq] ++ (cbN [y0, y1] ++ ([W.do_] ++ (bsN y2 ++ [W.end_]))) := by
  unfold bsN cbN
  rw [show_for]
  simp [bytesOf, commaT, info]
set_option maxRecDepth 20000 in
set_option maxHeartbeats 2000000 in
theorem xs_for (t : List UInt8) (n : Int) (y0 y1 y2 : Nd) (h0 : Puts 125 y0 (bsN y0)) (h1 : Puts 125 y1 (bsN y1)) (h2 : Puts 78 y2 (bsN y2)) : Puts 104 ⟨10, t, n, [y0, y1, y2]⟩ (bsN ⟨10, t, n, [y0, y1, y2]⟩) := by
  intro m D b cap w0 B ts V hF hN hT hlen
  rw [bs_for] at hlen ⊢
  simp only [List.length_append, List.length_cons, List.length_nil] at hlen
  have hb0 := ext_alloc (Below.refl V.heap.size V) (nbx ⟨10, t, n, [y0, y1, y2]⟩ b cap)
  have hT0 := hT.on hb0
  have hX0 := bx_new hT ⟨10, t, n, [y0, y1, y2]⟩ b cap
  obtain ⟨U, hU⟩ : ∃ U, V.alloc (nbx ⟨10, t, n, [y0, y1, y2]⟩ b cap) = U := ⟨_, rfl⟩
  rw [hU] at hT0 hX0 hb0
  replace hU : V.alloc (.cells #[.int .i64 10, sk t, .int .i64 n, .slice b 3 cap] 24) = U := hU
  have hKA := KA.of hN
  have hcap : 3 ≤ cap := hKA.1
  obtain ⟨g, off, b0, cap0, rfl, v00, v01, v02, v03, hV0⟩ := KA.at hKA (j := 0) rfl
  rw [show off + 0 * 4 = off by omega] at v00 v01 v02 v03
  obtain ⟨g', off', b1, cap1, e', v10, v11, v12, v13, hV1⟩ := KA.at hKA (j := 1) rfl
  cases e'
  rw [show off + 1 * 4 = off + 4 by omega] at v10 v11 v12 v13
  obtain ⟨g', off', b2, cap2, e', v20, v21, v22, v23, hV2⟩ := KA.at hKA (j := 2) rfl
  cases e'
  rw [show off + 2 * 4 = off + 8 by omega] at v20 v21 v22 v23
  obtain ⟨c0, c1, c2, c3, f0, f1, f2, f3⟩ := in4 hX0.g
  dsimp only [List.length_cons, List.length_nil] at c3
  have a00 := cellB hT0.bl v00
  have a01 := cellB hT0.bl v01
  have a02 := cellB hT0.bl v02
  have a03 := cellB hT0.bl v03
  have a10 := cellB hT0.bl v10
  have a11 := cellB hT0.bl v11
  have a12 := cellB hT0.bl v12
  have a13 := cellB hT0.bl v13
  have a20 := cellB hT0.bl v20
  have a21 := cellB hT0.bl v21
  have a22 := cellB hT0.bl v22
  have a23 := cellB hT0.bl v23
  have hc2 := fun u (h : Wt w0 B m (ts ++ [[102, 111, 114], t, [61]]) u) => wrow_of [y0, y1] (fun x hx => by simp at hx; rcases hx with rfl | rfl; exact h0; exact h1) (by simp) m D (some ⟨g, off, none⟩) cap w0 B (ts ++ [[102, 111, 114], t, [61]]) u hF (KA.take hKA 2) h (by simp; omega)
  dsimp only [List.length_cons, List.length_nil] at hc2
  have hc3 := fun u (h : Wt w0 B m (ts ++ [[102, 111, 114], t, [61]] ++ cbN [y0, y1]) u) => (wbody_of y2 h2) m D b2 cap2 w0 B (ts ++ [[102, 111, 114], t, [61]] ++ cbN [y0, y1]) u hF hV2 h (by first | omega | (simp; omega))
  go_enter Tryz.func104, Tryz.ntmps104
  go_wp2_with (first | (go_at_call 127; refine (hc3 _ q2.t).mono ?_; rintro e w3 q3; have e3 := q3.e; subst e3; have hX3 := hX2.on q3; obtain ⟨c0, c1, c2, c3, f0, f1, f2, f3⟩ := in4 hX3.g; dsimp only [List.length_cons, List.length_nil] at c3; have a00 := cellB q3.t.bl v00; have a01 := cellB q3.t.bl v01; have a02 := cellB q3.t.bl v02; have a03 := cellB q3.t.bl v03; have a10 := cellB q3.t.bl v10; have a11 := cellB q3.t.bl v11; have a12 := cellB q3.t.bl v12; have a13 := cellB q3.t.bl v13; have a20 := cellB q3.t.bl v20; have a21 := cellB q3.t.bl v21; have a22 := cellB q3.t.bl v22; have a23 := cellB q3.t.bl v23) | (go_at_call 128; refine (hc2 _ q1.t).mono ?_; rintro e w2 q2; have e2 := q2.e; subst e2; have hX2 := hX1.on q2; obtain ⟨c0, c1, c2, c3, f0, f1, f2, f3⟩ := in4 hX2.g; dsimp only [List.length_cons, List.length_nil] at c3; have a00 := cellB q2.t.bl v00; have a01 := cellB q2.t.bl v01; have a02 := cellB q2.t.bl v02; have a03 := cellB q2.t.bl v03; have a10 := cellB q2.t.bl v10; have a11 := cellB q2.t.bl v11; have a12 := cellB q2.t.bl v12; have a13 := cellB q2.t.bl v13; have a20 := cellB q2.t.bl v20; have a21 := cellB q2.t.bl v21; have a22 := cellB q2.t.bl v22; have a23 := cellB q2.t.bl v23) | (go_at_call 77; refine (hT0.put3 [102, 111, 114] t [61] (by omega)).mono ?_; rintro e w1 q1; have e1 := q1.e; subst e1; have hX1 := hX0.on q1; obtain ⟨c0, c1, c2, c3, f0, f1, f2, f3⟩ := in4 hX1.g; dsimp only [List.length_cons, List.length_nil] at c3; have a00 := cellB q1.t.bl v00; have a01 := cellB q1.t.bl v01; have a02 := cellB q1.t.bl v02; have a03 := cellB q1.t.bl v03; have a10 := cellB q1.t.bl v10; have a11 := cellB q1.t.bl v11; have a12 := cellB q1.t.bl v12; have a13 := cellB q1.t.bl v13; have a20 := cellB q1.t.bl v20; have a21 := cellB q1.t.bl v21; have a22 := cellB q1.t.bl v22; have a23 := cellB q1.t.bl v23))
  go_end0
  simpa using ((q1.then q2).then q3).of hT hb0
theorem bs_return (t : List UInt8) (n : Int) (y0 : Nd) : bsN ⟨11, t, n, [y0]⟩ = [W.return_] ++ (bsN y0 ++ [S.sc]) := by
  unfold bsN
  rw [show_return]
  simp [bytesOf]
set_option maxRecDepth 20000 in
set_option maxHeartbeats 2000000 in
theorem xs_return (t : List UInt8) (n : Int) (y0 : Nd) (h0 : Puts 125 y0 (bsN y0)) : Puts 104 ⟨11, t, n, [y0]⟩ (bsN ⟨11, t, n, [y0]⟩) := by
  intro m D b cap w0 B ts V hF hN hT hlen
  rw [bs_return] at hlen ⊢
  simp only [List.length_append, List.length_cons, List.length_nil] at hlen
  have hb0 := ext_alloc (Below.refl V.heap.size V) (nbx ⟨11, t, n, [y0]⟩ b cap)
  have hT0 := hT.on hb0
  have hX0 := bx_new hT ⟨11, t, n, [y0]⟩ b cap
  obtain ⟨U, hU⟩ : ∃ U, V.alloc (nbx ⟨11, t, n, [y0]⟩ b cap) = U := ⟨_, rfl⟩
  rw [hU] at hT0 hX0 hb0
  replace hU : V.alloc (.cells #[.int .i64 11, sk t, .int .i64 n, .slice b 1 cap] 24) = U := hU
  have hKA := KA.of hN
  have hcap : 1 ≤ cap := hKA.1
  obtain ⟨g, off, b0, cap0, rfl, v00, v01, v02, v03, hV0⟩ := KA.at hKA (j := 0) rfl
  rw [show off + 0 * 4 = off by omega] at v00 v01 v02 v03
  obtain ⟨c0, c1, c2, c3, f0, f1, f2, f3⟩ := in4 hX0.g
  dsimp only [List.length_cons, List.length_nil] at c3
  have a00 := cellB hT0.bl v00
  have a01 := cellB hT0.bl v01
  have a02 := cellB hT0.bl v02
  have a03 := cellB hT0.bl v03
  have hc2 := fun u (h : Wt w0 B m (ts ++ [[114, 101, 116, 117, 114, 110]]) u) => (wgiven_of y0 h0) m D b0 cap0 w0 B (ts ++ [[114, 101, 116, 117, 114, 110]]) u hF hV0 h (by first | omega | (simp; omega))
  go_enter Tryz.func104, Tryz.ntmps104
  go_wp2_with (first | (go_at_call 124; refine (hc2 _ q1.t).mono ?_; rintro e w2 q2; have e2 := q2.e; subst e2; have hX2 := hX1.on q2; obtain ⟨c0, c1, c2, c3, f0, f1, f2, f3⟩ := in4 hX2.g; dsimp only [List.length_cons, List.length_nil] at c3; have a00 := cellB q2.t.bl v00; have a01 := cellB q2.t.bl v01; have a02 := cellB q2.t.bl v02; have a03 := cellB q2.t.bl v03) | (go_at_call 77; refine (hT0.put1 [114, 101, 116, 117, 114, 110] (by omega)).mono ?_; rintro e w1 q1; have e1 := q1.e; subst e1; have hX1 := hX0.on q1; obtain ⟨c0, c1, c2, c3, f0, f1, f2, f3⟩ := in4 hX1.g; dsimp only [List.length_cons, List.length_nil] at c3; have a00 := cellB q1.t.bl v00; have a01 := cellB q1.t.bl v01; have a02 := cellB q1.t.bl v02; have a03 := cellB q1.t.bl v03))
  go_end0
  simpa using (q1.then q2).of hT hb0
theorem bs_emit (t : List UInt8) (n : Int) (y0 : Nd) : bsN ⟨12, t, n, [y0]⟩ = [W.emit_] ++ (bsN y0 ++ [S.sc]) := by
  unfold bsN
  rw [show_emit]
  simp [bytesOf]
set_option maxRecDepth 20000 in
set_option maxHeartbeats 2000000 in
theorem xs_emit (t : List UInt8) (n : Int) (y0 : Nd) (h0 : Puts 125 y0 (bsN y0)) : Puts 104 ⟨12, t, n, [y0]⟩ (bsN ⟨12, t, n, [y0]⟩) := by
  intro m D b cap w0 B ts V hF hN hT hlen
  rw [bs_emit] at hlen ⊢
  simp only [List.length_append, List.length_cons, List.length_nil] at hlen
  have hb0 := ext_alloc (Below.refl V.heap.size V) (nbx ⟨12, t, n, [y0]⟩ b cap)
  have hT0 := hT.on hb0
  have hX0 := bx_new hT ⟨12, t, n, [y0]⟩ b cap
  obtain ⟨U, hU⟩ : ∃ U, V.alloc (nbx ⟨12, t, n, [y0]⟩ b cap) = U := ⟨_, rfl⟩
  rw [hU] at hT0 hX0 hb0
  replace hU : V.alloc (.cells #[.int .i64 12, sk t, .int .i64 n, .slice b 1 cap] 24) = U := hU
  have hKA := KA.of hN
  have hcap : 1 ≤ cap := hKA.1
  obtain ⟨g, off, b0, cap0, rfl, v00, v01, v02, v03, hV0⟩ := KA.at hKA (j := 0) rfl
  rw [show off + 0 * 4 = off by omega] at v00 v01 v02 v03
  obtain ⟨c0, c1, c2, c3, f0, f1, f2, f3⟩ := in4 hX0.g
  dsimp only [List.length_cons, List.length_nil] at c3
  have a00 := cellB hT0.bl v00
  have a01 := cellB hT0.bl v01
  have a02 := cellB hT0.bl v02
  have a03 := cellB hT0.bl v03
  have hc2 := fun u (h : Wt w0 B m (ts ++ [[101, 109, 105, 116]]) u) => (wgiven_of y0 h0) m D b0 cap0 w0 B (ts ++ [[101, 109, 105, 116]]) u hF hV0 h (by first | omega | (simp; omega))
  go_enter Tryz.func104, Tryz.ntmps104
  go_wp2_with (first | (go_at_call 124; refine (hc2 _ q1.t).mono ?_; rintro e w2 q2; have e2 := q2.e; subst e2; have hX2 := hX1.on q2; obtain ⟨c0, c1, c2, c3, f0, f1, f2, f3⟩ := in4 hX2.g; dsimp only [List.length_cons, List.length_nil] at c3; have a00 := cellB q2.t.bl v00; have a01 := cellB q2.t.bl v01; have a02 := cellB q2.t.bl v02; have a03 := cellB q2.t.bl v03) | (go_at_call 77; refine (hT0.put1 [101, 109, 105, 116] (by omega)).mono ?_; rintro e w1 q1; have e1 := q1.e; subst e1; have hX1 := hX0.on q1; obtain ⟨c0, c1, c2, c3, f0, f1, f2, f3⟩ := in4 hX1.g; dsimp only [List.length_cons, List.length_nil] at c3; have a00 := cellB q1.t.bl v00; have a01 := cellB q1.t.bl v01; have a02 := cellB q1.t.bl v02; have a03 := cellB q1.t.bl v03))
  go_end0
  simpa using (q1.then q2).of hT hb0
end Go.Proofs.YtbdkiimggggndaaGreatDoor
namespace Go.Proofs.YtbdkiimggggndaaGreatDoor
open Go.RowKit
open Go

/-- All of them. -/
def abN (l : List Nd) : List (List UInt8) := (allT (l.map info)).map bytesOf
theorem abN_snoc (l : List Nd) (y : Nd) : abN (l ++ [y]) = abN l ++ bsN y := by simp [abN, allT, info, bsN]
theorem abN_le (l r : List Nd) : (abN l).length ≤ (abN (l ++ r)).length := by simp [abN, allT]
theorem bs_block (t : List UInt8) (n : Int) (l : List Nd) : bsN ⟨4, t, n, l⟩ = abN l := by
  unfold bsN abN
  rw [showT_eq]
  simp [comb]
theorem bs_unit (t : List UInt8) (n : Int) (l : List Nd) : bsN ⟨1, t, n, l⟩ = abN l := by
  unfold bsN abN
  rw [showT_eq]
  simp [comb]
set_option maxRecDepth 20000 in
set_option maxHeartbeats 1000000 in
theorem wblock_of (t : List UInt8) (n : Int) (l : List Nd) (hl : ∀ y ∈ l, Puts 104 y (bsN y)) (hL0 : l.length ≤ 100000) : Puts 78 ⟨4, t, n, l⟩ (bsN ⟨4, t, n, l⟩) := by
  intro m D b cap w0 B ts V hF hN hT hlen
  rw [bs_block] at hlen ⊢
  obtain ⟨L, hL⟩ : ∃ L, l.length = L := ⟨_, rfl⟩
  have hk := KA.of hN
  have hcap : L ≤ cap := by rw [← hL]; exact hk.1
  have hb0 := ext_alloc (Below.refl V.heap.size V) (nbx ⟨4, t, n, l⟩ b cap)
  have hT0 := hT.on hb0
  have hX0 := bx_new hT ⟨4, t, n, l⟩ b cap
  obtain ⟨c0, c1, c2, c3, f0, f1, f2, f3⟩ := in4 hX0.g
  dsimp only at c3
  obtain ⟨U, hU⟩ : ∃ U, V.alloc (nbx ⟨4, t, n, l⟩ b cap) = U := ⟨_, rfl⟩
  rw [hU] at hT0 hX0 hb0 c0 c1 c2 c3 f0 f1 f2 f3
  replace hU : V.alloc (.cells #[.int .i64 4, sk t, .int .i64 n, .slice b l.length cap] 24) = U := hU
  have hnd : ndv ⟨4, t, n, l⟩ b cap = .agg #[.int .i64 4, sk t, .int .i64 n, .slice b L cap] := by rw [← hL]
  rw [hnd]
  rw [hL] at hL0 c3 hU
  have hI : WQ w0 B m (ts ++ abN (l.take 0)) U (.returned (.tuple #[])) U := by
    rw [show ts ++ abN (l.take 0) = ts by simp [abN, allT]]
    exact WQ.start hT0
  clear hnd
  replace hL : Hid _ := hL
  replace hk : Hid _ := hk
  replace hl : Hid _ := hl
  replace hlen : Hid _ := hlen
  replace hI : Hid _ := hI
  go_enter Tryz.func78, Tryz.ntmps78
  go_wp2
  go_loopw [9] (fun ix wr => ∃ j : Nat, j ≤ L ∧ ix = .int .i64 (j : Nat) ∧ WQ w0 B m (ts ++ abN (l.take j)) U (.returned (.tuple #[])) wr) (fun ix _ => L - (intOf ix).toNat)
  case atStart => exact ⟨0, by omega, rfl, hI.out⟩
  case round =>
    obtain ⟨j, hj, rfl, q⟩ := hrel
    clear hI
    by_cases hlt : j < L
    · have hlt' : (j : Int) < (L : Int) := by omega
      obtain ⟨y, hy⟩ : ∃ y, l[j]? = some y := ⟨_, List.getElem?_eq_getElem (show j < l.length by have := hL.out; omega)⟩
      obtain ⟨g, off, b', cap', rfl, v0, v1, v2, v3, hyV⟩ := KA.at hk.out hy
      have c0 := cellB q.t.bl v0
      have c1 := cellB q.t.bl v1
      have c2 := cellB q.t.bl v2
      have c3 := cellB q.t.bl v3
      have htk := take_next hy
      have hym : y ∈ l := List.mem_of_getElem? hy
      have hple : ts.length + (abN (l.take (j + 1))).length ≤ 1000000 := by
        have h1 := abN_le (l.take (j + 1)) (l.drop (j + 1))
        rw [List.take_append_drop] at h1
        have := hlen.out
        omega
      rw [htk, abN_snoc] at hple
      have e0 : ts ++ abN (l.take (j + 1)) = ts ++ abN (l.take j) ++ bsN y := by rw [htk, abN_snoc]; simp
      have hb1 := ext_alloc (Below.refl wr.heap.size wr) (nbx y b' cap')
      have hc := hl.out y hym m D b' cap' w0 B (ts ++ abN (l.take j)) (wr.alloc (nbx y b' cap')) hF hyV (q.t.on hb1) (by simp at hple ⊢; omega)
      obtain ⟨tj, htj⟩ : ∃ t, ts ++ abN (l.take j) = t := ⟨_, rfl⟩
      rw [htj] at q hc e0
      clear v0 v1 v2 v3 hyV hy hlen hk hl htk hple htj
      replace e0 : Hid _ := e0
      go_wp2_with (go_at_call 104; refine hc.mono ?_; rintro e w3 q3; have e3 := q3.e; subst e3)
      go_roundw
      case rel => exact ⟨j + 1, by omega, by go_num, by rw [e0.out]; exact q.then (q3.of q.t hb1)⟩
      case measure => simp [intOf]; omega
    · obtain rfl : j = L := by omega
      go_wp2
      go_end0
      have := q.of hT hb0
      rw [List.take_of_length_le (by have := hL.out; omega)] at this
      exact this
end Go.Proofs.YtbdkiimggggndaaGreatDoor
namespace Go.Proofs.YtbdkiimggggndaaGreatDoor
open Go.RowKit
open Go

theorem bs_if2 (t : List UInt8) (n : Int) (y0 y1 : Nd) : bsN ⟨8, t, n, [y0, y1]⟩ = [W.if_] ++ (bsN y0 ++ ([W.then_] ++ (bsN y1 ++ [W.end_]))) := by
  unfold bsN
  rw [show_if2]
  simp [bytesOf]
set_option maxRecDepth 20000 in
set_option maxHeartbeats 2000000 in
theorem xs_if2 (t : List UInt8) (n : Int) (y0 y1 : Nd) (h0 : Puts 125 y0 (bsN y0)) (h1 : Puts 78 y1 (bsN y1)) : Puts 126 ⟨8, t, n, [y0, y1]⟩ (bsN ⟨8, t, n, [y0, y1]⟩) := by
  intro m D b cap w0 B ts V hF hN hT hlen
  rw [bs_if2] at hlen ⊢
  simp only [List.length_append, List.length_cons, List.length_nil] at hlen
  have hb0 := ext_alloc (Below.refl V.heap.size V) (nbx ⟨8, t, n, [y0, y1]⟩ b cap)
  have hT0 := hT.on hb0
  have hX0 := bx_new hT ⟨8, t, n, [y0, y1]⟩ b cap
  obtain ⟨U, hU⟩ : ∃ U, V.alloc (nbx ⟨8, t, n, [y0, y1]⟩ b cap) = U := ⟨_, rfl⟩
  rw [hU] at hT0 hX0 hb0
  replace hU : V.alloc (.cells #[.int .i64 8, sk t, .int .i64 n, .slice b 2 cap] 24) = U := hU
  have hKA := KA.of hN
  have hcap : 2 ≤ cap := hKA.1
  obtain ⟨g, off, b0, cap0, rfl, v00, v01, v02, v03, hV0⟩ := KA.at hKA (j := 0) rfl
  rw [show off + 0 * 4 = off by omega] at v00 v01 v02 v03
  obtain ⟨g', off', b1, cap1, e', v10, v11, v12, v13, hV1⟩ := KA.at hKA (j := 1) rfl
  cases e'
  rw [show off + 1 * 4 = off + 4 by omega] at v10 v11 v12 v13
  obtain ⟨c0, c1, c2, c3, f0, f1, f2, f3⟩ := in4 hX0.g
  dsimp only [List.length_cons, List.length_nil] at c3
  have a00 := cellB hT0.bl v00
  have a01 := cellB hT0.bl v01
  have a02 := cellB hT0.bl v02
  have a03 := cellB hT0.bl v03
  have a10 := cellB hT0.bl v10
  have a11 := cellB hT0.bl v11
  have a12 := cellB hT0.bl v12
  have a13 := cellB hT0.bl v13
  have hc2 := fun u (h : Wt w0 B m (ts ++ [[105, 102]]) u) => h0 m D b0 cap0 w0 B (ts ++ [[105, 102]]) u hF hV0 h (by first | omega | (simp; omega))
  have hc4 := fun u (h : Wt w0 B m (ts ++ [[105, 102]] ++ (bsN y0) ++ [[116, 104, 101, 110]]) u) => h1 m D b1 cap1 w0 B (ts ++ [[105, 102]] ++ (bsN y0) ++ [[116, 104, 101, 110]]) u hF hV1 h (by first | omega | (simp; omega))
  by_cases hc : cap = 2
  · subst hc
    go_enter Tryz.func126, Tryz.ntmps126
    go_wp2_with (first | (go_at_call 78; refine (hc4 _ q3.t).mono ?_; rintro e w4 q4; have e4 := q4.e; subst e4; have hX4 := hX3.on q4; obtain ⟨c0, c1, c2, c3, f0, f1, f2, f3⟩ := in4 hX4.g; dsimp only [List.length_cons, List.length_nil] at c3; have a00 := cellB q4.t.bl v00; have a01 := cellB q4.t.bl v01; have a02 := cellB q4.t.bl v02; have a03 := cellB q4.t.bl v03; have a10 := cellB q4.t.bl v10; have a11 := cellB q4.t.bl v11; have a12 := cellB q4.t.bl v12; have a13 := cellB q4.t.bl v13) | (go_at_call 77; refine (q2.t.put1 [116, 104, 101, 110] (by simp; omega)).mono ?_; rintro e w3 q3; have e3 := q3.e; subst e3; have hX3 := hX2.on q3; obtain ⟨c0, c1, c2, c3, f0, f1, f2, f3⟩ := in4 hX3.g; dsimp only [List.length_cons, List.length_nil] at c3; have a00 := cellB q3.t.bl v00; have a01 := cellB q3.t.bl v01; have a02 := cellB q3.t.bl v02; have a03 := cellB q3.t.bl v03; have a10 := cellB q3.t.bl v10; have a11 := cellB q3.t.bl v11; have a12 := cellB q3.t.bl v12; have a13 := cellB q3.t.bl v13) | (go_at_call 125; refine (hc2 _ q1.t).mono ?_; rintro e w2 q2; have e2 := q2.e; subst e2; have hX2 := hX1.on q2; obtain ⟨c0, c1, c2, c3, f0, f1, f2, f3⟩ := in4 hX2.g; dsimp only [List.length_cons, List.length_nil] at c3; have a00 := cellB q2.t.bl v00; have a01 := cellB q2.t.bl v01; have a02 := cellB q2.t.bl v02; have a03 := cellB q2.t.bl v03; have a10 := cellB q2.t.bl v10; have a11 := cellB q2.t.bl v11; have a12 := cellB q2.t.bl v12; have a13 := cellB q2.t.bl v13) | (go_at_call 77; refine (hT0.put1 [105, 102] (by omega)).mono ?_; rintro e w1 q1; have e1 := q1.e; subst e1; have hX1 := hX0.on q1; obtain ⟨c0, c1, c2, c3, f0, f1, f2, f3⟩ := in4 hX1.g; dsimp only [List.length_cons, List.length_nil] at c3; have a00 := cellB q1.t.bl v00; have a01 := cellB q1.t.bl v01; have a02 := cellB q1.t.bl v02; have a03 := cellB q1.t.bl v03; have a10 := cellB q1.t.bl v10; have a11 := cellB q1.t.bl v11; have a12 := cellB q1.t.bl v12; have a13 := cellB q1.t.bl v13))
    refine wp_loop_rounds 1 ?_
    rw [rounds_succ]
    go_wp2_with (go_at_call 77; refine (q4.t.put1 [101, 110, 100] (by simp; omega)).mono ?_; rintro e w5 q5; have e5 := q5.e; subst e5)
    go_end0
    simpa using ((((q1.then q2).then q3).then q4).then q5).of hT hb0
  · have hcc : 2 < cap := by omega
    go_enter Tryz.func126, Tryz.ntmps126
    go_wp2_with (first | (go_at_call 78; refine (hc4 _ q3.t).mono ?_; rintro e w4 q4; have e4 := q4.e; subst e4; have hX4 := hX3.on q4; obtain ⟨c0, c1, c2, c3, f0, f1, f2, f3⟩ := in4 hX4.g; dsimp only [List.length_cons, List.length_nil] at c3; have a00 := cellB q4.t.bl v00; have a01 := cellB q4.t.bl v01; have a02 := cellB q4.t.bl v02; have a03 := cellB q4.t.bl v03; have a10 := cellB q4.t.bl v10; have a11 := cellB q4.t.bl v11; have a12 := cellB q4.t.bl v12; have a13 := cellB q4.t.bl v13) | (go_at_call 77; refine (q2.t.put1 [116, 104, 101, 110] (by simp; omega)).mono ?_; rintro e w3 q3; have e3 := q3.e; subst e3; have hX3 := hX2.on q3; obtain ⟨c0, c1, c2, c3, f0, f1, f2, f3⟩ := in4 hX3.g; dsimp only [List.length_cons, List.length_nil] at c3; have a00 := cellB q3.t.bl v00; have a01 := cellB q3.t.bl v01; have a02 := cellB q3.t.bl v02; have a03 := cellB q3.t.bl v03; have a10 := cellB q3.t.bl v10; have a11 := cellB q3.t.bl v11; have a12 := cellB q3.t.bl v12; have a13 := cellB q3.t.bl v13) | (go_at_call 125; refine (hc2 _ q1.t).mono ?_; rintro e w2 q2; have e2 := q2.e; subst e2; have hX2 := hX1.on q2; obtain ⟨c0, c1, c2, c3, f0, f1, f2, f3⟩ := in4 hX2.g; dsimp only [List.length_cons, List.length_nil] at c3; have a00 := cellB q2.t.bl v00; have a01 := cellB q2.t.bl v01; have a02 := cellB q2.t.bl v02; have a03 := cellB q2.t.bl v03; have a10 := cellB q2.t.bl v10; have a11 := cellB q2.t.bl v11; have a12 := cellB q2.t.bl v12; have a13 := cellB q2.t.bl v13) | (go_at_call 77; refine (hT0.put1 [105, 102] (by omega)).mono ?_; rintro e w1 q1; have e1 := q1.e; subst e1; have hX1 := hX0.on q1; obtain ⟨c0, c1, c2, c3, f0, f1, f2, f3⟩ := in4 hX1.g; dsimp only [List.length_cons, List.length_nil] at c3; have a00 := cellB q1.t.bl v00; have a01 := cellB q1.t.bl v01; have a02 := cellB q1.t.bl v02; have a03 := cellB q1.t.bl v03; have a10 := cellB q1.t.bl v10; have a11 := cellB q1.t.bl v11; have a12 := cellB q1.t.bl v12; have a13 := cellB q1.t.bl v13))
    refine wp_loop_rounds 1 ?_
    rw [rounds_succ]
    go_wp2_with (go_at_call 77; refine (q4.t.put1 [101, 110, 100] (by simp; omega)).mono ?_; rintro e w5 q5; have e5 := q5.e; subst e5)
    go_end0
    simpa using ((((q1.then q2).then q3).then q4).then q5).of hT hb0
theorem bs_if3 (t : List UInt8) (n : Int) (y0 y1 y2 : Nd) : bsN ⟨8, t, n, [y0, y1, y2]⟩ = [W.if_] ++ (bsN y0 ++ ([W.then_] ++ (bsN y1 ++ ([W.else_] ++ (bsN y2 ++ [W.end_]))))) := by
  unfold bsN
  rw [show_if3]
  simp [bytesOf]
set_option maxRecDepth 20000 in
set_option maxHeartbeats 2000000 in
theorem xs_if3 (t : List UInt8) (n : Int) (y0 y1 y2 : Nd) (h0 : Puts 125 y0 (bsN y0)) (h1 : Puts 78 y1 (bsN y1)) (h2 : Puts 78 y2 (bsN y2)) : Puts 126 ⟨8, t, n, [y0, y1, y2]⟩ (bsN ⟨8, t, n, [y0, y1, y2]⟩) := by
  intro m D b cap w0 B ts V hF hN hT hlen
  rw [bs_if3] at hlen ⊢
  simp only [List.length_append, List.length_cons, List.length_nil] at hlen
  have hb0 := ext_alloc (Below.refl V.heap.size V) (nbx ⟨8, t, n, [y0, y1, y2]⟩ b cap)
  have hT0 := hT.on hb0
  have hX0 := bx_new hT ⟨8, t, n, [y0, y1, y2]⟩ b cap
  obtain ⟨U, hU⟩ : ∃ U, V.alloc (nbx ⟨8, t, n, [y0, y1, y2]⟩ b cap) = U := ⟨_, rfl⟩
  rw [hU] at hT0 hX0 hb0
  replace hU : V.alloc (.cells #[.int .i64 8, sk t, .int .i64 n, .slice b 3 cap] 24) = U := hU
  have hKA := KA.of hN
  have hcap : 3 ≤ cap := hKA.1
  obtain ⟨g, off, b0, cap0, rfl, v00, v01, v02, v03, hV0⟩ := KA.at hKA (j := 0) rfl
  rw [show off + 0 * 4 = off by omega] at v00 v01 v02 v03
  obtain ⟨g', off', b1, cap1, e', v10, v11, v12, v13, hV1⟩ := KA.at hKA (j := 1) rfl
  cases e'
  rw [show off + 1 * 4 = off + 4 by omega] at v10 v11 v12 v13
  obtain ⟨g', off', b2, cap2, e', v20, v21, v22, v23, hV2⟩ := KA.at hKA (j := 2) rfl
  cases e'
  rw [show off + 2 * 4 = off + 8 by omega] at v20 v21 v22 v23
  obtain ⟨c0, c1, c2, c3, f0, f1, f2, f3⟩ := in4 hX0.g
  dsimp only [List.length_cons, List.length_nil] at c3
  have a00 := cellB hT0.bl v00
  have a01 := cellB hT0.bl v01
  have a02 := cellB hT0.bl v02
  have a03 := cellB hT0.bl v03
  have a10 := cellB hT0.bl v10
  have a11 := cellB hT0.bl v11
  have a12 := cellB hT0.bl v12
  have a13 := cellB hT0.bl v13
  have a20 := cellB hT0.bl v20
  have a21 := cellB hT0.bl v21
  have a22 := cellB hT0.bl v22
  have a23 := cellB hT0.bl v23
  have hc2 := fun u (h : Wt w0 B m (ts ++ [[105, 102]]) u) => h0 m D b0 cap0 w0 B (ts ++ [[105, 102]]) u hF hV0 h (by first | omega | (simp; omega))
  have hc4 := fun u (h : Wt w0 B m (ts ++ [[105, 102]] ++ (bsN y0) ++ [[116, 104, 101, 110]]) u) => h1 m D b1 cap1 w0 B (ts ++ [[105, 102]] ++ (bsN y0) ++ [[116, 104, 101, 110]]) u hF hV1 h (by first | omega | (simp; omega))
  have hc6 := fun u (h : Wt w0 B m (ts ++ [[105, 102]] ++ (bsN y0) ++ [[116, 104, 101, 110]] ++ (bsN y1) ++ [[101, 108, 115, 101]]) u) => h2 m D b2 cap2 w0 B (ts ++ [[105, 102]] ++ (bsN y0) ++ [[116, 104, 101, 110]] ++ (bsN y1) ++ [[101, 108, 115, 101]]) u hF hV2 h (by simp; omega)
  have hc : ¬ cap = 2 := by omega
  go_enter Tryz.func126, Tryz.ntmps126
  go_wp2_with (first | (go_at_call 78; refine (hc4 _ q3.t).mono ?_; rintro e w4 q4; have e4 := q4.e; subst e4; have hX4 := hX3.on q4; obtain ⟨c0, c1, c2, c3, f0, f1, f2, f3⟩ := in4 hX4.g; dsimp only [List.length_cons, List.length_nil] at c3; have a00 := cellB q4.t.bl v00; have a01 := cellB q4.t.bl v01; have a02 := cellB q4.t.bl v02; have a03 := cellB q4.t.bl v03; have a10 := cellB q4.t.bl v10; have a11 := cellB q4.t.bl v11; have a12 := cellB q4.t.bl v12; have a13 := cellB q4.t.bl v13; have a20 := cellB q4.t.bl v20; have a21 := cellB q4.t.bl v21; have a22 := cellB q4.t.bl v22; have a23 := cellB q4.t.bl v23) | (go_at_call 77; refine (q2.t.put1 [116, 104, 101, 110] (by simp; omega)).mono ?_; rintro e w3 q3; have e3 := q3.e; subst e3; have hX3 := hX2.on q3; obtain ⟨c0, c1, c2, c3, f0, f1, f2, f3⟩ := in4 hX3.g; dsimp only [List.length_cons, List.length_nil] at c3; have a00 := cellB q3.t.bl v00; have a01 := cellB q3.t.bl v01; have a02 := cellB q3.t.bl v02; have a03 := cellB q3.t.bl v03; have a10 := cellB q3.t.bl v10; have a11 := cellB q3.t.bl v11; have a12 := cellB q3.t.bl v12; have a13 := cellB q3.t.bl v13; have a20 := cellB q3.t.bl v20; have a21 := cellB q3.t.bl v21; have a22 := cellB q3.t.bl v22; have a23 := cellB q3.t.bl v23) | (go_at_call 125; refine (hc2 _ q1.t).mono ?_; rintro e w2 q2; have e2 := q2.e; subst e2; have hX2 := hX1.on q2; obtain ⟨c0, c1, c2, c3, f0, f1, f2, f3⟩ := in4 hX2.g; dsimp only [List.length_cons, List.length_nil] at c3; have a00 := cellB q2.t.bl v00; have a01 := cellB q2.t.bl v01; have a02 := cellB q2.t.bl v02; have a03 := cellB q2.t.bl v03; have a10 := cellB q2.t.bl v10; have a11 := cellB q2.t.bl v11; have a12 := cellB q2.t.bl v12; have a13 := cellB q2.t.bl v13; have a20 := cellB q2.t.bl v20; have a21 := cellB q2.t.bl v21; have a22 := cellB q2.t.bl v22; have a23 := cellB q2.t.bl v23) | (go_at_call 77; refine (hT0.put1 [105, 102] (by omega)).mono ?_; rintro e w1 q1; have e1 := q1.e; subst e1; have hX1 := hX0.on q1; obtain ⟨c0, c1, c2, c3, f0, f1, f2, f3⟩ := in4 hX1.g; dsimp only [List.length_cons, List.length_nil] at c3; have a00 := cellB q1.t.bl v00; have a01 := cellB q1.t.bl v01; have a02 := cellB q1.t.bl v02; have a03 := cellB q1.t.bl v03; have a10 := cellB q1.t.bl v10; have a11 := cellB q1.t.bl v11; have a12 := cellB q1.t.bl v12; have a13 := cellB q1.t.bl v13; have a20 := cellB q1.t.bl v20; have a21 := cellB q1.t.bl v21; have a22 := cellB q1.t.bl v22; have a23 := cellB q1.t.bl v23))
  refine wp_loop_rounds 2 ?_
  have hbk := ext_alloc (Below.refl w4.heap.size w4) (nbx y2 b2 cap2)
  have hTk := q4.t.on hbk
  have hXk := bx_new q4.t y2 b2 cap2
  obtain ⟨K, hK⟩ : ∃ K, w4.alloc (nbx y2 b2 cap2) = K := ⟨_, rfl⟩
  rw [hK] at hTk hXk hbk
  replace hK : w4.alloc (.cells #[.int .i64 y2.k, sk y2.t, .int .i64 y2.n, .slice b2 y2.kids.length cap2] 24) = K := hK
  rw [rounds_succ]
  go_wp2_with (first | (go_at_call 78; refine (hc6 _ q5.t).mono ?_; rintro e w6 q6; have e6 := q6.e; subst e6) | (go_at_call 77; refine (hTk.put1 [101, 108, 115, 101] (by simp; omega)).mono ?_; rintro e w5 q5; have e5 := q5.e; subst e5; have hX5 := hXk.on q5; obtain ⟨c0, c1, c2, c3, f0, f1, f2, f3⟩ := in4 hX5.g))
  rw [rounds_succ]
  go_wp2_with (go_at_call 77; refine (q6.t.put1 [101, 110, 100] (by simp; omega)).mono ?_; rintro e w7 q7; have e7 := q7.e; subst e7)
  go_end0
  simpa using (((((q1.then q2).then q3).then q4).then ((q5.then q6).of q4.t hbk)).then q7).of hT hb0
set_option maxRecDepth 20000 in
set_option maxHeartbeats 1000000 in
theorem xs_if (t : List UInt8) (n : Int) (ks : List Nd) (hc : Puts 126 ⟨8, t, n, ks⟩ (bsN ⟨8, t, n, ks⟩)) : Puts 104 ⟨8, t, n, ks⟩ (bsN ⟨8, t, n, ks⟩) := by
  intro m D b cap w0 B ts V hF hN hT hlen
  have hb0 := ext_alloc (Below.refl V.heap.size V) (nbx ⟨8, t, n, ks⟩ b cap)
  have hT0 := hT.on hb0
  have hX0 := bx_new hT ⟨8, t, n, ks⟩ b cap
  obtain ⟨U, hU⟩ : ∃ U, V.alloc (nbx ⟨8, t, n, ks⟩ b cap) = U := ⟨_, rfl⟩
  rw [hU] at hT0 hX0 hb0
  replace hU : V.alloc (.cells #[.int .i64 8, sk t, .int .i64 n, .slice b ks.length cap] 24) = U := hU
  obtain ⟨c0, c1, c2, c3, f0, f1, f2, f3⟩ := in4 hX0.g
  have hs := hc m D b cap w0 B ts U hF hN hT0 hlen
  clear hc
  obtain ⟨vs, hvs⟩ : ∃ v, bsN ⟨8, t, n, ks⟩ = v := ⟨_, rfl⟩
  rw [hvs] at hs ⊢
  go_enter Tryz.func104, Tryz.ntmps104
  go_wp2_with (go_at_call 126; refine hs.mono ?_; rintro e w2 q2; have e2 := q2.e; subst e2)
  go_end0
  exact q2.of hT hb0
theorem puts_bs (x : Nd) : (isK 4 x → manyN x ≤ 600 → Puts 78 x (bsN x)) ∧ (isS x → manyN x ≤ 600 → Puts 104 x (bsN x)) := by
  refine nd_ind (m := fun x => (isK 4 x → manyN x ≤ 600 → Puts 78 x (bsN x)) ∧ (isS x → manyN x ≤ 600 → Puts 104 x (bsN x))) (fun k t n ks ih => ⟨fun hx hm => ?_, fun hx hm => ?_⟩) x
  · have hk : k = 4 := hx.2
    subst hk
    have hms : manyN ⟨4, t, n, ks⟩ = manyN.go ks + 1 := rfl
    have hll := many_len ks
    refine wblock_of t n ks (fun y hy => (ih y hy).2 ((isk4.1 hx).2 y hy) ?_) (by omega)
    have := many_kid hy
    omega
  · have hms : manyN ⟨k, t, n, ks⟩ = manyN.go ks + 1 := rfl
    have mk : ∀ y ∈ ks, manyN y ≤ 600 := fun y hy => by have := many_kid hy; omega
    have hX : ∀ y ∈ ks, isX y → Puts 125 y (bsN y) := fun y hy h => puts_x y h (mk y hy)
    have hB : ∀ y ∈ ks, isK 4 y → Puts 78 y (bsN y) := fun y hy h => (ih y hy).1 h (mk y hy)
    have hk := hx.2
    simp only [statK] at hk
    have hc : k = 5 ∨ k = 6 ∨ k = 7 ∨ k = 8 ∨ k = 9 ∨ k = 10 ∨ k = 11 ∨ k = 12 := by omega
    rcases hc with rfl | rfl | rfl | rfl | rfl | rfl | rfl | rfl
    · obtain ⟨_, y, rfl, h⟩ := iss5.1 hx
      exact xs_local t n y (hX y (by simp) h)
    · obtain ⟨_, y, z, rfl, h, h'⟩ := iss6.1 hx
      exact xs_set t n y z (hX y (by simp) h.1) (hX z (by simp) h')
    · obtain ⟨_, y, rfl, h⟩ := iss7.1 hx
      exact xs_do t n y (hX y (by simp) h.1)
    · rcases (iss8.1 hx).2 with ⟨y, z, rfl, h, h'⟩ | ⟨y, z, v, rfl, h, h', h''⟩
      · exact xs_if t n _ (xs_if2 t n y z (hX y (by simp) h) (hB z (by simp) h'))
      · exact xs_if t n _ (xs_if3 t n y z v (hX y (by simp) h) (hB z (by simp) h') (hB v (by simp) h''))
    · obtain ⟨_, y, z, rfl, h, h'⟩ := iss9.1 hx
      exact xs_while t n y z (hX y (by simp) h) (hB z (by simp) h')
    · obtain ⟨_, y, z, v, rfl, h, h', h''⟩ := iss10.1 hx
      exact xs_for t n y z v (hX y (by simp) h) (hX z (by simp) h') (hB v (by simp) h'')
    · obtain ⟨_, y, rfl, h⟩ := (iss11 (by decide)).1 hx
      exact xs_return t n y (hX y (by simp) h)
    · obtain ⟨_, y, rfl, h⟩ := (iss11 (by decide)).1 hx
      exact xs_emit t n y (hX y (by simp) h)
end Go.Proofs.YtbdkiimggggndaaGreatDoor
namespace Go.Proofs.YtbdkiimggggndaaGreatDoor
open Go.RowKit
open Go

set_option maxRecDepth 20000 in
set_option maxHeartbeats 1000000 in
theorem wunit_of (t : List UInt8) (n : Int) (l : List Nd) (hl : ∀ y ∈ l, Puts 42 y (bsN y)) (hL0 : l.length ≤ 100000) : Puts 20 ⟨1, t, n, l⟩ (bsN ⟨1, t, n, l⟩) := by
  intro m D b cap w0 B ts V hF hN hT hlen
  rw [bs_unit] at hlen ⊢
  obtain ⟨L, hL⟩ : ∃ L, l.length = L := ⟨_, rfl⟩
  have hk := KA.of hN
  have hcap : L ≤ cap := by rw [← hL]; exact hk.1
  have hb0 := ext_alloc (Below.refl V.heap.size V) (nbx ⟨1, t, n, l⟩ b cap)
  have hT0 := hT.on hb0
  have hX0 := bx_new hT ⟨1, t, n, l⟩ b cap
  obtain ⟨c0, c1, c2, c3, f0, f1, f2, f3⟩ := in4 hX0.g
  dsimp only at c3
  obtain ⟨U, hU⟩ : ∃ U, V.alloc (nbx ⟨1, t, n, l⟩ b cap) = U := ⟨_, rfl⟩
  rw [hU] at hT0 hX0 hb0 c0 c1 c2 c3 f0 f1 f2 f3
  replace hU : V.alloc (.cells #[.int .i64 1, sk t, .int .i64 n, .slice b l.length cap] 24) = U := hU
  have hnd : ndv ⟨1, t, n, l⟩ b cap = .agg #[.int .i64 1, sk t, .int .i64 n, .slice b L cap] := by rw [← hL]
  rw [hnd]
  rw [hL] at hL0 c3 hU
  have hI : WQ w0 B m (ts ++ abN (l.take 0)) U (.returned (.tuple #[])) U := by
    rw [show ts ++ abN (l.take 0) = ts by simp [abN, allT]]
    exact WQ.start hT0
  clear hnd
  replace hL : Hid _ := hL
  replace hk : Hid _ := hk
  replace hl : Hid _ := hl
  replace hlen : Hid _ := hlen
  replace hI : Hid _ := hI
  go_enter Tryz.func20, Tryz.ntmps20
  go_wp2
  go_loopw [9] (fun ix wr => ∃ j : Nat, j ≤ L ∧ ix = .int .i64 (j : Nat) ∧ WQ w0 B m (ts ++ abN (l.take j)) U (.returned (.tuple #[])) wr) (fun ix _ => L - (intOf ix).toNat)
  case atStart => exact ⟨0, by omega, rfl, hI.out⟩
  case round =>
    obtain ⟨j, hj, rfl, q⟩ := hrel
    clear hI
    by_cases hlt : j < L
    · have hlt' : (j : Int) < (L : Int) := by omega
      obtain ⟨y, hy⟩ : ∃ y, l[j]? = some y := ⟨_, List.getElem?_eq_getElem (show j < l.length by have := hL.out; omega)⟩
      obtain ⟨g, off, b', cap', rfl, v0, v1, v2, v3, hyV⟩ := KA.at hk.out hy
      have c0 := cellB q.t.bl v0
      have c1 := cellB q.t.bl v1
      have c2 := cellB q.t.bl v2
      have c3 := cellB q.t.bl v3
      have htk := take_next hy
      have hym : y ∈ l := List.mem_of_getElem? hy
      have hple : ts.length + (abN (l.take (j + 1))).length ≤ 1000000 := by
        have h1 := abN_le (l.take (j + 1)) (l.drop (j + 1))
        rw [List.take_append_drop] at h1
        have := hlen.out
        omega
      rw [htk, abN_snoc] at hple
      have e0 : ts ++ abN (l.take (j + 1)) = ts ++ abN (l.take j) ++ bsN y := by rw [htk, abN_snoc]; simp
      have hb1 := ext_alloc (Below.refl wr.heap.size wr) (nbx y b' cap')
      have hc := hl.out y hym m D b' cap' w0 B (ts ++ abN (l.take j)) (wr.alloc (nbx y b' cap')) hF hyV (q.t.on hb1) (by simp at hple ⊢; omega)
      obtain ⟨tj, htj⟩ : ∃ t, ts ++ abN (l.take j) = t := ⟨_, rfl⟩
      rw [htj] at q hc e0
      clear v0 v1 v2 v3 hyV hy hlen hk hl htk hple htj
      replace e0 : Hid _ := e0
      go_wp2_with (go_at_call 42; refine hc.mono ?_; rintro e w3 q3; have e3 := q3.e; subst e3)
      go_roundw
      case rel => exact ⟨j + 1, by omega, by go_num, by rw [e0.out]; exact q.then (q3.of q.t hb1)⟩
      case measure => simp [intOf]; omega
    · obtain rfl : j = L := by omega
      go_wp2
      go_end0
      have := q.of hT hb0
      rw [List.take_of_length_le (by have := hL.out; omega)] at this
      exact this
theorem bs_fun (t : List UInt8) (n : Int) (ps : List Nd) (bk : Nd) : bsN ⟨2, t, n, ps ++ [bk]⟩ = [W.function_, t, S.lp] ++ (cbN ps ++ ([S.rp] ++ (bsN bk ++ [W.end_]))) := by
  unfold bsN
  rw [showT_eq]
  have h1 : comb 2 t n ((ps ++ [bk]).map info) = [wt W.function_, wt t] ++ roundT (ps.map info) ++ showT bk ++ [wt W.end_] := by
    simp [comb, info]
  rw [h1]
  simp only [List.map_append, round_b]
  simp [bytesOf]
set_option maxRecDepth 20000 in
set_option maxHeartbeats 2000000 in
theorem wfun_of (t : List UInt8) (n : Int) (ps : List Nd) (bk : Nd) (hps : ∀ p ∈ ps, bsN p = [p.t]) (hb : Puts 78 bk (bsN bk)) (hL0 : ps.length ≤ 90000) : Puts 42 ⟨2, t, n, ps ++ [bk]⟩ (bsN ⟨2, t, n, ps ++ [bk]⟩) := by
  intro m D b cap w0 B ts V hF hN hT hlen
  rw [bs_fun] at hlen ⊢
  simp only [List.length_append, List.length_cons, List.length_nil] at hlen
  obtain ⟨ks, hks⟩ : ∃ l, ps ++ [bk] = l := ⟨_, rfl⟩
  rw [hks] at hN ⊢
  obtain ⟨L, hL⟩ : ∃ L, ps.length = L := ⟨_, rfl⟩
  have hL1 : ks.length = L + 1 := by rw [← hks]; simp [hL]
  rw [hL] at hL0
  have hk := KA.of hN
  have hkp : KA D w0 b cap ps := by
    have := KA.take hk L
    rw [← hks, List.take_left' hL] at this
    exact this
  have hcap : L + 1 ≤ cap := by rw [← hL1]; exact hk.1
  obtain ⟨g, off, b1, cap1, rfl, v0, v1, v2, v3, hbV⟩ := KA.at hk (j := L) (y := bk) (by rw [← hks, List.getElem?_append_right (by omega)]; simp [hL])
  have hb0 := ext_alloc (Below.refl V.heap.size V) (nbx ⟨2, t, n, ks⟩ (some ⟨g, off, none⟩) cap)
  have hT0 := hT.on hb0
  have hX0 := bx_new hT ⟨2, t, n, ks⟩ (some ⟨g, off, none⟩) cap
  obtain ⟨U, hU⟩ : ∃ U, V.alloc (nbx ⟨2, t, n, ks⟩ (some ⟨g, off, none⟩) cap) = U := ⟨_, rfl⟩
  rw [hU] at hT0 hX0 hb0
  replace hU : V.alloc (.cells #[.int .i64 2, sk t, .int .i64 n, .slice (some ⟨g, off, none⟩) ks.length cap] 24) = U := hU
  have hnd : ndv ⟨2, t, n, ks⟩ (some ⟨g, off, none⟩) cap = .agg #[.int .i64 2, sk t, .int .i64 n, .slice (some ⟨g, off, none⟩) (L + 1) cap] := by rw [← hL1]
  rw [hnd]
  rw [hL1] at hU
  obtain ⟨c0, c1, c2, c3, f0, f1, f2, f3⟩ := in4 hX0.g
  dsimp only at c3
  rw [hL1] at c3
  have hLe : ((L + 1 : Nat) : Int) - 1 = (L : Int) := by omega
  have hi1 : (0 : Int) ≤ (L : Int) := by omega
  have hi2 : (L : Int) ≤ (cap : Int) := by omega
  have hP1 := hT0.put3 [102, 117, 110, 99, 116, 105, 111, 110] t [40] (by omega)
  have hcb := fun u (h : Wt w0 B m (ts ++ [[102, 117, 110, 99, 116, 105, 111, 110], t, [40]] ++ cbN ps ++ [[41]]) u) => hb m D b1 cap1 w0 B (ts ++ [[102, 117, 110, 99, 116, 105, 111, 110], t, [40]] ++ cbN ps ++ [[41]]) u hF hbV h (by simp; omega)
  clear hnd hbV hb hk
  replace hL : Hid _ := hL
  replace hL1 : Hid _ := hL1
  replace hks : Hid _ := hks
  replace hkp : Hid _ := hkp
  replace hps : Hid _ := hps
  go_enter Tryz.func42, Tryz.ntmps42
  go_wp2_with (go_at_call 77; refine hP1.mono ?_; rintro e w1 q1; have e1 := q1.e; subst e1; have hX1 := hX0.on q1; obtain ⟨c0, c1, c2, c3, f0, f1, f2, f3⟩ := in4 hX1.g; dsimp only at c3; rw [hL1.out] at c3)
  obtain ⟨T1, hT1e⟩ : ∃ T, ts ++ [[102, 117, 110, 99, 116, 105, 111, 110], t, [40]] = T := ⟨_, rfl⟩
  rw [hT1e] at q1 hcb
  have hT1l : T1.length = ts.length + 3 := by rw [← hT1e]; simp
  have hI : WQ w0 B m (T1 ++ cbN (ps.take 0)) w1 (.returned (.tuple #[])) w1 := by
    rw [show T1 ++ cbN (ps.take 0) = T1 by simp [cbN, commaT]]
    exact WQ.start q1.t
  replace hI : Hid _ := hI
  replace hT1l : Hid _ := hT1l
  replace hlen : Hid _ := hlen
  go_loopw [21] (fun ix wr => ∃ j : Nat, j ≤ L ∧ ix = .int .i64 (j : Nat) ∧ WQ w0 B m (T1 ++ cbN (ps.take j)) w1 (.returned (.tuple #[])) wr) (fun ix _ => L - (intOf ix).toNat)
  case atStart => exact ⟨0, by omega, rfl, hI.out⟩
  case round =>
    obtain ⟨j, hj, rfl, q⟩ := hrel
    clear hI
    by_cases hlt : j < L
    · have hlt' : (j : Int) < (L : Int) := by omega
      obtain ⟨y, hy⟩ : ∃ y, ps[j]? = some y := ⟨_, List.getElem?_eq_getElem (show j < ps.length by have := hL.out; omega)⟩
      obtain ⟨g2, off2, b', cap', eb, x0, x1, x2, x3, hyV⟩ := KA.at hkp.out hy
      cases eb
      have d0 := cellB q.t.bl x0
      have d1 := cellB q.t.bl x1
      have d2 := cellB q.t.bl x2
      have d3 := cellB q.t.bl x3
      have htk := take_next hy
      have hym : y ∈ ps := List.mem_of_getElem? hy
      have hby := hps.out y hym
      have hple : T1.length + (cbN (ps.take (j + 1))).length ≤ 1000000 := by
        have h1 := cbN_le (ps.take (j + 1)) (ps.drop (j + 1))
        rw [List.take_append_drop] at h1
        have := hlen.out
        have := hT1l.out
        omega
      rw [htk, cbN_snoc] at hple
      have hb1 := ext_alloc (Below.refl wr.heap.size wr) (nbx y b' cap')
      have hTk := q.t.on hb1
      have hXk := bx_new q.t y b' cap'
      obtain ⟨K, hK⟩ : ∃ K, wr.alloc (nbx y b' cap') = K := ⟨_, rfl⟩
      rw [hK] at hTk hXk hb1
      replace hK : wr.alloc (.cells #[.int .i64 y.k, sk y.t, .int .i64 y.n, .slice b' y.kids.length cap'] 24) = K := hK
      obtain ⟨k0, k1, k2, k3, l0, l1, l2, l3⟩ := in4 hXk.g
      by_cases hj0 : j = 0
      · subst hj0
        rw [show off + 0 * 4 = off by omega] at d0 d1 d2 d3
        have e0 : T1 ++ cbN (ps.take (0 + 1)) = T1 ++ [y.t] := by rw [htk, cbN_snoc, List.take_zero, if_pos rfl, hby]
        have e1 : T1 ++ cbN (ps.take 0) = T1 := by simp [cbN, commaT]
        rw [e1] at q hTk
        rw [List.take_zero, if_pos rfl, hby] at hple
        simp at hple
        have hp := hTk.put1 y.t (by omega)
        clear x0 x1 x2 x3 hyV hy hlen hkp hps htk hple e1 hby hcb
        replace e0 : Hid _ := e0
        go_wp2_with (go_at_call 77; refine hp.mono ?_; rintro e w3 q3; have e3 := q3.e; subst e3)
        go_roundw
        case rel => exact ⟨0 + 1, by omega, by go_num, by rw [e0.out]; exact q.then (q3.of q.t hb1)⟩
        case measure => simp [intOf]; omega
      · have hne : ps.take j ≠ [] := by
          intro e
          rcases List.take_eq_nil_iff.1 e with h | h
          · exact hj0 h
          · have := hL.out
            rw [h] at this
            simp at this
            omega
        rw [if_neg hne, hby] at hple
        have hjp : (0 : Int) < (j : Int) := by omega
        have e0 : T1 ++ cbN (ps.take (j + 1)) = T1 ++ cbN (ps.take j) ++ [S.cm] ++ [y.t] := by rw [htk, cbN_snoc, if_neg hne, hby]; simp
        obtain ⟨tj, htj⟩ : ∃ t, T1 ++ cbN (ps.take j) = t := ⟨_, rfl⟩
        rw [htj] at q hTk e0
        have hlj : tj.length + 2 ≤ 1000000 := by rw [← htj]; simp at hple ⊢; omega
        clear x0 x1 x2 x3 hyV hy hlen hkp hps htk hple hne htj hby hcb
        replace e0 : Hid _ := e0
        go_wp2_with (first | (go_at_call 77; refine (q2.t.put1 y.t (by simp; omega)).mono ?_; rintro e w3 q3; have e3 := q3.e; subst e3) | (go_at_call 77; refine (hTk.put1 [44] (by omega)).mono ?_; rintro e w2 q2; have e2 := q2.e; subst e2; have hX2 := hXk.on q2; obtain ⟨k0, k1, k2, k3, l0, l1, l2, l3⟩ := in4 hX2.g))
        go_roundw
        case rel => exact ⟨j + 1, by omega, by go_num, by rw [e0.out]; exact q.then ((q2.then q3).of q.t hb1)⟩
        case measure => simp [intOf]; omega
    · obtain rfl : j = L := by omega
      rw [List.take_of_length_le (by have := hL.out; omega)] at q
      have hXL := hX1.on q
      obtain ⟨c0, c1, c2, c3, f0, f1, f2, f3⟩ := in4 hXL.g
      dsimp only at c3
      rw [hL1.out] at c3
      have hle := hlen.out
      have hl1 := hT1l.out
      have hi4 : (j : Int) < ((j + 1 : Nat) : Int) := by omega
      have hi5 : (j : Int) < (j : Int) + 1 := by omega
      have hpR := q.t.put1 [41] (by simp; omega)
      go_wp2_with (first | (go_at_call 77; refine (q4.t.put1 [101, 110, 100] (by simp; omega)).mono ?_; rintro e w5 q5; have e5 := q5.e; subst e5) | (go_at_call 78; refine (hcb _ q3.t).mono ?_; rintro e w4 q4; have e4 := q4.e; subst e4) | (go_at_call 77; refine hpR.mono ?_; rintro e w3 q3; have e3 := q3.e; subst e3; have hX3 := hXL.on q3; obtain ⟨c0, c1, c2, c3, f0, f1, f2, f3⟩ := in4 hX3.g; dsimp only at c3; rw [hL1.out] at c3; have a0 := cellB q3.t.bl v0; have a1 := cellB q3.t.bl v1; have a2 := cellB q3.t.bl v2; have a3 := cellB q3.t.bl v3))
      go_end0
      have := ((((q1.then q).then q3).then q4).then q5).of hT hb0
      rw [← hT1e] at this
      simpa using this
end Go.Proofs.YtbdkiimggggndaaGreatDoor
namespace Go.Proofs.YtbdkiimggggndaaGreatDoor
open Go.RowKit
open Go

theorem bs_param {p : Nd} (h : isK 3 p) : bsN p = [p.t] := by
  obtain ⟨k, t, n, ks⟩ := p
  have hk : k = 3 := h.2
  subst hk
  unfold bsN
  rw [showT_eq]
  simp [comb, bytesOf]
theorem puts_f (x : Nd) (h : isK 2 x) (hm : manyN x ≤ 600) : Puts 42 x (bsN x) := by
  obtain ⟨k, t, n, ks⟩ := x
  have hk : k = 2 := h.2
  subst hk
  obtain ⟨_, hl, hp, hb⟩ := isk2.1 h
  have hms : manyN ⟨2, t, n, ks⟩ = manyN.go ks + 1 := rfl
  have hll := many_len ks
  obtain ⟨bk, hbk⟩ : ∃ y, ks[ks.length - 1]? = some y := ⟨_, List.getElem?_eq_getElem (by omega)⟩
  have e : ks = ks.take (ks.length - 1) ++ [bk] := by
    have := take_next hbk
    rw [show ks.length - 1 + 1 = ks.length by omega, List.take_length] at this
    exact this
  have hbm : bk ∈ ks := List.mem_of_getElem? hbk
  have hmk := many_kid hbm
  obtain ⟨ps, hps⟩ : ∃ l, ks.take (ks.length - 1) = l := ⟨_, rfl⟩
  have hpl : ps.length ≤ 90000 := by rw [← hps]; simp; omega
  rw [hps] at hp e
  rw [e]
  exact wfun_of t n ps bk (fun p hpp => bs_param (hp p hpp)) ((puts_bs bk).1 (hb bk hbk) (by omega)) hpl
theorem puts_u (x : Nd) (h : isK 1 x) (hm : manyN x ≤ 600) : Puts 20 x (bsN x) := by
  obtain ⟨k, t, n, ks⟩ := x
  have hk : k = 1 := h.2
  subst hk
  have hms : manyN ⟨1, t, n, ks⟩ = manyN.go ks + 1 := rfl
  have hll := many_len ks
  exact wunit_of t n ks (fun y hy => puts_f y ((isk1.1 h).2 y hy) (by have := many_kid hy; omega)) (by omega)
theorem op_num {o : Int} (h : (opOf o).isSome = true) : 0 ≤ o ∧ o ≤ 100 := by
  obtain ⟨p, hp⟩ := Option.isSome_iff_exists.1 h
  unfold opOf at hp
  obtain ⟨q, hq, _⟩ := Option.map_eq_some_iff.1 hp
  have all : ∀ q ∈ opsL, 0 ≤ q.2.1 ∧ q.2.1 ≤ 100 := by decide
  have h1 := List.find?_some hq
  have h2 := all q (List.mem_of_find?_eq_some hq)
  have : q.2.1 = o := by simpa using h1
  rw [this] at h2
  exact h2
/-- What is known of a node that a program's text has. -/
theorem okN_of (x : Nd) : isN x → manyN x ≤ 600 → okN x := by
  refine nd_ind (m := fun x => isN x → manyN x ≤ 600 → okN x) (fun k t n ks ih h hm => ?_) x
  have hms : manyN ⟨k, t, n, ks⟩ = manyN.go ks + 1 := rfl
  have hll := many_len ks
  have h' := (isN_iff k t n ks).1 h
  obtain ⟨_, h2, h3, ⟨h22, h14⟩, h13, h0, _, _, h9⟩ := h'
  rw [okN, okN_go]
  refine ⟨?_, ?_, ?_, by omega, fun y hy => ?_⟩
  · by_cases hn : hasName k
    · have := h2 hn
      simp only [nameB, Bool.and_eq_true, decide_eq_true_eq] at this
      omega
    · by_cases hk : k = 14
      · have := h14 hk
        simp only [quotB, Bool.and_eq_true, decide_eq_true_eq] at this
        omega
      · rw [h3 hn hk]; simp
  · by_cases hk : k = 22
    · have := op_num (h22 hk); omega
    · by_cases hk' : k = 13
      · have := h13 hk'; omega
      · rw [h0 hk hk']; omega
  · by_cases hk : k = 22
    · have := op_num (h22 hk); omega
    · by_cases hk' : k = 13
      · have := h13 hk'; omega
      · rw [h0 hk hk']; omega
  · obtain ⟨j, hj, e⟩ := List.getElem_of_mem hy
    exact ih y hy (h9 j y (by rw [List.getElem?_eq_getElem hj, e])).2 (by have := many_kid hy; omega)
end Go.Proofs.YtbdkiimggggndaaGreatDoor
