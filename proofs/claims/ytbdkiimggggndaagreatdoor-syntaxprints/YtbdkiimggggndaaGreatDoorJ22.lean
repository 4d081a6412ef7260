/- The program's writer: an operation. The program's writer: an expression. The program's writer: expressions, whole; given, body, block. -/
import Derived.Test.YtbdkiimggggndaaGreatDoorJ20
import Derived.Lib.AppendIntMem
namespace Go.Proofs.YtbdkiimggggndaaGreatDoor
open Go.RowKit
open Go

def LkS (m : Nat) (kv : List (Int × Value)) (u : World) : Prop := u.heap[m]? = some (mapObj ik kv)
theorem LkS.alloc {m : Nat} {kv : List (Int × Value)} (u : World) (o : Obj) (h : LkS m kv u) : LkS m kv (u.alloc o) := block_alloc o h
theorem LkS.drew {m : Nat} {kv : List (Int × Value)} (u : World) (h : LkS m kv u) : LkS m kv u.drew := h
theorem LkS.drewN {m : Nat} {kv : List (Int × Value)} (u : World) (n : Nat) (h : LkS m kv u) : LkS m kv (u.drewN n) := h
theorem op_le {o : Int} {p : List UInt8 × Nat} (h : opOf o = some p) : p.2 ≤ 5 := by
  unfold opOf at h
  obtain ⟨q, hq, rfl⟩ := Option.map_eq_some_iff.1 h
  have all : ∀ q ∈ opsL, q.2.2 ≤ 5 := by decide
  exact all q (List.mem_of_find?_eq_some hq)
set_option maxRecDepth 20000 in
set_option maxHeartbeats 1000000 in
theorem operation_of (t : List UInt8) (n : Int) (y z : Nd) (hn : (opOf n).isSome = true) (hoy : opd y) (hoz : opd z) (hy : Puts 125 y (bsN y)) (hz : Puts 125 z (bsN z)) : Puts 148 ⟨22, t, n, [y, z]⟩ (bsN ⟨22, t, n, [y, z]⟩) := by
  intro m D b cap w0 B ts W hF hN hT hlen
  obtain ⟨p, hp⟩ := Option.isSome_iff_exists.1 hn
  have hp5 := op_le hp
  have hlv : lvlN n = p.2 := by unfold lvlN; rw [hp]; rfl
  have hot : bytesOf (opT n) = p.1 := by
    obtain ⟨p1, p2⟩ := p
    unfold opT
    rw [hp]
    by_cases h : n = 20 ∨ n = 21
    · simp [bytesOf, h]
    · simp [bytesOf, h]
  have hbs : bsN ⟨22, t, n, [y, z]⟩ = atB (if p.2 = 2 then 3 else p.2) y ++ ([p.1] ++ atB (p.2 + 1) z) := by
    unfold bsN atB
    rw [show_op, hlv]
    simp [hot]
  rw [hbs] at hlen ⊢
  simp only [List.length_append, List.length_cons, List.length_nil] at hlen
  have hb0 := ext_alloc (Below.refl W.heap.size W) (nbx ⟨22, t, n, [y, z]⟩ b cap)
  have hT0 := hT.on hb0
  have hX0 := bx_new hT ⟨22, t, n, [y, z]⟩ b cap
  obtain ⟨U, hU⟩ : ∃ U, W.alloc (nbx ⟨22, t, n, [y, z]⟩ b cap) = U := ⟨_, rfl⟩
  rw [hU] at hT0 hX0 hb0
  replace hU : W.alloc (.cells #[.int .i64 22, sk t, .int .i64 n, .slice b 2 cap] 24) = U := hU
  have hcap : 2 ≤ cap := (KA.of hN).1
  obtain ⟨g, off, b1, cap1, rfl, v0, v1, v2, v3, hyV⟩ := KA.at (KA.of hN) (j := 0) rfl
  rw [show off + 0 * 4 = off by omega] at v0 v1 v2 v3
  obtain ⟨g', off', b2, cap2, e', u0, u1, u2, u3, hzV⟩ := KA.at (KA.of hN) (j := 1) rfl
  cases e'
  rw [show off + 1 * 4 = off + 4 by omega] at u0 u1 u2 u3
  have c0' := in4 hX0.g
  obtain ⟨c0, c1, c2, c3, f0, f1, f2, f3⟩ := c0'
  obtain ⟨lim, hWd⟩ := (hF.e.on hT0.bl).W
  obtain ⟨kv, hsp, hm3⟩ := hWd.h3
  have hL := fun (u : World) (h : LkS m.c kv u) => look_sp hsp h n false
  rw [if_neg (by decide), hp] at hL
  simp only [Option.map_some, Option.getD_some] at hL
  obtain ⟨ps, pb⟩ := p
  dsimp only at hL hlen ⊢
  obtain ⟨le, hle⟩ : ∃ le, (if pb = 2 then 3 else pb) = le := ⟨_, rfl⟩
  rw [hle] at hlen ⊢
  rw [show ((pb + 1 : Nat) : Int) = (pb : Int) + 1 by omega] at hL
  obtain ⟨bt, capt, hbox, _⟩ := hT0.box
  have w2c : U.cell? ⟨B, 2, none⟩ = some (.map (some m.c)) := cell_block hbox rfl
  have k0 : LkS m.c kv U := hm3
  have k1 := LkS.alloc (m := m.c) (kv := kv)
  have k2 := LkS.drew (m := m.c) (kv := kv)
  have k3 := LkS.drewN (m := m.c) (kv := kv)
  have hBU := hT0.lt
  have htU := block_lt hX0.g
  have n1 : ¬ B = U.heap.size := by omega
  have n2 : ¬ U.heap.size = B := by omega
  have n3 : ¬ W.heap.size = U.heap.size := by omega
  have n4 : ¬ U.heap.size = W.heap.size := by omega
  clear hWd hm3 hsp hbs hot hlv hp hn
  have hc : pb = 0 ∨ pb = 1 ∨ pb = 2 ∨ pb = 3 ∨ pb = 4 ∨ pb = 5 := by dsimp only at hp5; omega
  rcases hc with rfl | rfl | rfl | rfl | rfl | rfl
  · rw [if_neg (by decide)] at hle
    subst hle
    rw [show ((0 : Nat) : Int) + 1 = 1 by rfl] at hL
    have hw1 := fun u (h : Wt w0 B m ts u) => within_of y hoy hy 0 m D b1 cap1 w0 B ts u hF hyV h (by unfold atB at hlen; omega)
    have hw2 := fun u (h : Wt w0 B m (ts ++ atB 0 y ++ [ps]) u) => within_of z hoz hz (0 + 1) m D b2 cap2 w0 B (ts ++ atB 0 y ++ [ps]) u hF hzV h (by unfold atB at hlen ⊢; simp at hlen ⊢; omega)
    rw [show ((0 : Nat) : Int) + 1 = 1 by rfl] at hw1
    rw [show ((0 + 1 : Nat) : Int) + 1 = 2 by rfl] at hw2
    clear hy hz hyV hzV
    go_enter Tryz.func148, Tryz.ntmps148
    go_wp2
    go_region_held3 (fun u => u.cell? ⟨B, 2, none⟩ = some (.map (some m.c)) ∧ u.cell? ⟨W.heap.size, 2, none⟩ = some (.int .i64 n) ∧ LkS m.c kv u) (go_keep) (fail)
    all_goals
      have hbV := (ext_alloc (Below.refl U.heap.size U) (.cells #[.string ⟨ps.toArray⟩, .int .i64 1] 77)).drew
      have gO : (U.alloc (.cells #[.string ⟨ps.toArray⟩, .int .i64 1] 77)).drew.heap[U.heap.size]? = some (.cells #[.string ⟨ps.toArray⟩, .int .i64 1] 77) := alloc_new U _
      have hTV := hT0.on hbV
      have hXV := hX0.below hBU hbV
      have aO : Apart B (U.alloc (.cells #[.string ⟨ps.toArray⟩, .int .i64 1] 77)).drew U.heap.size := ⟨by omega, fun c0 c1 c2 c3 c4 v hv e => by have := (hT0.own_lt ((hbV.block B hBU).symm.trans hv) e).1; omega⟩
      obtain ⟨V, hV⟩ : ∃ V, (U.alloc (.cells #[.string ⟨ps.toArray⟩, .int .i64 1] 77)).drew = V := ⟨_, rfl⟩
      rw [hV] at hbV gO hTV hXV aO
      rw [hV]
      obtain ⟨tq, hto⟩ : ∃ z, U.heap.size = z := ⟨_, rfl⟩
      rw [hto] at gO aO
      rw [hto]
      obtain ⟨c0, c1, c2, c3, f0, f1, f2, f3⟩ := in4 hXV.g
      have o0 : V.cell? ⟨tq, 0, none⟩ = some (.string ⟨ps.toArray⟩) := cell_block gO rfl
      have o1 : V.cell? ⟨tq, 1, none⟩ = some (.int .i64 1) := cell_block gO rfl
      have d0 := cellB hTV.bl v0
      have d1 := cellB hTV.bl v1
      have d2 := cellB hTV.bl v2
      have d3 := cellB hTV.bl v3
      clear hV hto hL k0 k1 k2 k3 w2c n1 n2 n3 n4
      refine Lib.hid ?_
      go_wp2_with (first | (go_at_call 77; refine (q1.t.put1 ps (by simp [atB] at hlen ⊢; omega)).mono ?_; rintro e w2 q2; have e2 := q2.e; subst e2; have hX2 := (hXV.on q1).on q2; obtain ⟨c0, c1, c2, c3, f0, f1, f2, f3⟩ := in4 hX2.g; have gO2 := (q2.k _ _ gO1.2 gO1.1).1; have o0 : w2.cell? ⟨tq, 0, none⟩ = some (.string ⟨ps.toArray⟩) := cell_block gO2 rfl; have o1 : w2.cell? ⟨tq, 1, none⟩ = some (.int .i64 1) := cell_block gO2 rfl; have d0 := cellB q2.t.bl u0; have d1 := cellB q2.t.bl u1; have d2 := cellB q2.t.bl u2; have d3 := cellB q2.t.bl u3) | (go_at_call 160; refine (hw1 _ hTV).mono ?_; rintro e w1 q1; have e1 := q1.e; subst e1; have gO1 := q1.k _ _ aO gO; have o0 : w1.cell? ⟨tq, 0, none⟩ = some (.string ⟨ps.toArray⟩) := cell_block gO1.1 rfl; have o1 : w1.cell? ⟨tq, 1, none⟩ = some (.int .i64 1) := cell_block gO1.1 rfl))
      go_region_held3 (fun u => u.cell? ⟨W.heap.size, 3, none⟩ = some (.slice (some ⟨g, off, none⟩) 2 cap) ∧ u.cell? ⟨g, off + 4, none⟩ = some (.int .i64 z.k) ∧ u.cell? ⟨g, off + 4 + 1, none⟩ = some (sk z.t) ∧ u.cell? ⟨g, off + 4 + 2, none⟩ = some (.int .i64 z.n) ∧ u.cell? ⟨g, off + 4 + 3, none⟩ = some (.slice b2 z.kids.length cap2) ∧ u.cell? ⟨tq, 1, none⟩ = some (.int .i64 1)) (go_keep) (first | (go_at_call 160; refine (hw2 _ (q2.t.on (Below.refl _ _).drew)).mono ?_; rintro e w3 q3'; have q3 := q3'.of q2.t (Below.refl _ _).drew; have e3 := q3.e; subst e3; have hX3 := hX2.on q3; obtain ⟨c0, c1, c2, c3, f0, f1, f2, f3⟩ := in4 hX3.g; have gO3 := (q3.k _ _ (q2.k _ _ gO1.2 gO1.1).2 gO2).1; have o1 : w3.cell? ⟨tq, 1, none⟩ = some (.int .i64 1) := cell_block gO3 rfl; have d0 := cellB q3.t.bl u0; have d1 := cellB q3.t.bl u1; have d2 := cellB q3.t.bl u2; have d3 := cellB q3.t.bl u3))
      go_wp2
      go_end0
      have q := ((q1.then q2).then q3).of hT (ext_trans hb0 hbV)
      simpa [atB] using q
  · rw [if_neg (by decide)] at hle
    subst hle
    rw [show ((1 : Nat) : Int) + 1 = 2 by rfl] at hL
    have hw1 := fun u (h : Wt w0 B m ts u) => within_of y hoy hy 1 m D b1 cap1 w0 B ts u hF hyV h (by unfold atB at hlen; omega)
    have hw2 := fun u (h : Wt w0 B m (ts ++ atB 1 y ++ [ps]) u) => within_of z hoz hz (1 + 1) m D b2 cap2 w0 B (ts ++ atB 1 y ++ [ps]) u hF hzV h (by unfold atB at hlen ⊢; simp at hlen ⊢; omega)
    rw [show ((1 : Nat) : Int) + 1 = 2 by rfl] at hw1
    rw [show ((1 + 1 : Nat) : Int) + 1 = 3 by rfl] at hw2
    clear hy hz hyV hzV
    go_enter Tryz.func148, Tryz.ntmps148
    go_wp2
    go_region_held3 (fun u => u.cell? ⟨B, 2, none⟩ = some (.map (some m.c)) ∧ u.cell? ⟨W.heap.size, 2, none⟩ = some (.int .i64 n) ∧ LkS m.c kv u) (go_keep) (fail)
    all_goals
      have hbV := (ext_alloc (Below.refl U.heap.size U) (.cells #[.string ⟨ps.toArray⟩, .int .i64 2] 77)).drew
      have gO : (U.alloc (.cells #[.string ⟨ps.toArray⟩, .int .i64 2] 77)).drew.heap[U.heap.size]? = some (.cells #[.string ⟨ps.toArray⟩, .int .i64 2] 77) := alloc_new U _
      have hTV := hT0.on hbV
      have hXV := hX0.below hBU hbV
      have aO : Apart B (U.alloc (.cells #[.string ⟨ps.toArray⟩, .int .i64 2] 77)).drew U.heap.size := ⟨by omega, fun c0 c1 c2 c3 c4 v hv e => by have := (hT0.own_lt ((hbV.block B hBU).symm.trans hv) e).1; omega⟩
      obtain ⟨V, hV⟩ : ∃ V, (U.alloc (.cells #[.string ⟨ps.toArray⟩, .int .i64 2] 77)).drew = V := ⟨_, rfl⟩
      rw [hV] at hbV gO hTV hXV aO
      rw [hV]
      obtain ⟨tq, hto⟩ : ∃ z, U.heap.size = z := ⟨_, rfl⟩
      rw [hto] at gO aO
      rw [hto]
      obtain ⟨c0, c1, c2, c3, f0, f1, f2, f3⟩ := in4 hXV.g
      have o0 : V.cell? ⟨tq, 0, none⟩ = some (.string ⟨ps.toArray⟩) := cell_block gO rfl
      have o1 : V.cell? ⟨tq, 1, none⟩ = some (.int .i64 2) := cell_block gO rfl
      have d0 := cellB hTV.bl v0
      have d1 := cellB hTV.bl v1
      have d2 := cellB hTV.bl v2
      have d3 := cellB hTV.bl v3
      clear hV hto hL k0 k1 k2 k3 w2c n1 n2 n3 n4
      refine Lib.hid ?_
      go_wp2_with (first | (go_at_call 77; refine (q1.t.put1 ps (by simp [atB] at hlen ⊢; omega)).mono ?_; rintro e w2 q2; have e2 := q2.e; subst e2; have hX2 := (hXV.on q1).on q2; obtain ⟨c0, c1, c2, c3, f0, f1, f2, f3⟩ := in4 hX2.g; have gO2 := (q2.k _ _ gO1.2 gO1.1).1; have o0 : w2.cell? ⟨tq, 0, none⟩ = some (.string ⟨ps.toArray⟩) := cell_block gO2 rfl; have o1 : w2.cell? ⟨tq, 1, none⟩ = some (.int .i64 2) := cell_block gO2 rfl; have d0 := cellB q2.t.bl u0; have d1 := cellB q2.t.bl u1; have d2 := cellB q2.t.bl u2; have d3 := cellB q2.t.bl u3) | (go_at_call 160; refine (hw1 _ hTV).mono ?_; rintro e w1 q1; have e1 := q1.e; subst e1; have gO1 := q1.k _ _ aO gO; have o0 : w1.cell? ⟨tq, 0, none⟩ = some (.string ⟨ps.toArray⟩) := cell_block gO1.1 rfl; have o1 : w1.cell? ⟨tq, 1, none⟩ = some (.int .i64 2) := cell_block gO1.1 rfl))
      go_region_held3 (fun u => u.cell? ⟨W.heap.size, 3, none⟩ = some (.slice (some ⟨g, off, none⟩) 2 cap) ∧ u.cell? ⟨g, off + 4, none⟩ = some (.int .i64 z.k) ∧ u.cell? ⟨g, off + 4 + 1, none⟩ = some (sk z.t) ∧ u.cell? ⟨g, off + 4 + 2, none⟩ = some (.int .i64 z.n) ∧ u.cell? ⟨g, off + 4 + 3, none⟩ = some (.slice b2 z.kids.length cap2) ∧ u.cell? ⟨tq, 1, none⟩ = some (.int .i64 2)) (go_keep) (first | (go_at_call 160; refine (hw2 _ (q2.t.on (Below.refl _ _).drew)).mono ?_; rintro e w3 q3'; have q3 := q3'.of q2.t (Below.refl _ _).drew; have e3 := q3.e; subst e3; have hX3 := hX2.on q3; obtain ⟨c0, c1, c2, c3, f0, f1, f2, f3⟩ := in4 hX3.g; have gO3 := (q3.k _ _ (q2.k _ _ gO1.2 gO1.1).2 gO2).1; have o1 : w3.cell? ⟨tq, 1, none⟩ = some (.int .i64 2) := cell_block gO3 rfl; have d0 := cellB q3.t.bl u0; have d1 := cellB q3.t.bl u1; have d2 := cellB q3.t.bl u2; have d3 := cellB q3.t.bl u3))
      go_wp2
      go_end0
      have q := ((q1.then q2).then q3).of hT (ext_trans hb0 hbV)
      simpa [atB] using q
  · rw [if_pos rfl] at hle
    subst hle
    rw [show ((2 : Nat) : Int) + 1 = 3 by rfl] at hL
    have hw1 := fun u (h : Wt w0 B m ts u) => within_of y hoy hy 3 m D b1 cap1 w0 B ts u hF hyV h (by unfold atB at hlen; omega)
    have hw2 := fun u (h : Wt w0 B m (ts ++ atB 3 y ++ [ps]) u) => within_of z hoz hz (2 + 1) m D b2 cap2 w0 B (ts ++ atB 3 y ++ [ps]) u hF hzV h (by unfold atB at hlen ⊢; simp at hlen ⊢; omega)
    rw [show ((3 : Nat) : Int) + 1 = 4 by rfl] at hw1
    rw [show ((2 + 1 : Nat) : Int) + 1 = 4 by rfl] at hw2
    clear hy hz hyV hzV
    go_enter Tryz.func148, Tryz.ntmps148
    go_wp2
    go_region_held3 (fun u => u.cell? ⟨B, 2, none⟩ = some (.map (some m.c)) ∧ u.cell? ⟨W.heap.size, 2, none⟩ = some (.int .i64 n) ∧ LkS m.c kv u) (go_keep) (fail)
    all_goals
      have hbV := (ext_alloc (Below.refl U.heap.size U) (.cells #[.string ⟨ps.toArray⟩, .int .i64 3] 77)).drew
      have gO : (U.alloc (.cells #[.string ⟨ps.toArray⟩, .int .i64 3] 77)).drew.heap[U.heap.size]? = some (.cells #[.string ⟨ps.toArray⟩, .int .i64 3] 77) := alloc_new U _
      have hTV := hT0.on hbV
      have hXV := hX0.below hBU hbV
      have aO : Apart B (U.alloc (.cells #[.string ⟨ps.toArray⟩, .int .i64 3] 77)).drew U.heap.size := ⟨by omega, fun c0 c1 c2 c3 c4 v hv e => by have := (hT0.own_lt ((hbV.block B hBU).symm.trans hv) e).1; omega⟩
      obtain ⟨V, hV⟩ : ∃ V, (U.alloc (.cells #[.string ⟨ps.toArray⟩, .int .i64 3] 77)).drew = V := ⟨_, rfl⟩
      rw [hV] at hbV gO hTV hXV aO
      rw [hV]
      obtain ⟨tq, hto⟩ : ∃ z, U.heap.size = z := ⟨_, rfl⟩
      rw [hto] at gO aO
      rw [hto]
      obtain ⟨c0, c1, c2, c3, f0, f1, f2, f3⟩ := in4 hXV.g
      have o0 : V.cell? ⟨tq, 0, none⟩ = some (.string ⟨ps.toArray⟩) := cell_block gO rfl
      have o1 : V.cell? ⟨tq, 1, none⟩ = some (.int .i64 3) := cell_block gO rfl
      have d0 := cellB hTV.bl v0
      have d1 := cellB hTV.bl v1
      have d2 := cellB hTV.bl v2
      have d3 := cellB hTV.bl v3
      clear hV hto hL k0 k1 k2 k3 w2c n1 n2 n3 n4
      refine Lib.hid ?_
      go_wp2_with (first | (go_at_call 77; refine (q1.t.put1 ps (by simp [atB] at hlen ⊢; omega)).mono ?_; rintro e w2 q2; have e2 := q2.e; subst e2; have hX2 := (hXV.on q1).on q2; obtain ⟨c0, c1, c2, c3, f0, f1, f2, f3⟩ := in4 hX2.g; have gO2 := (q2.k _ _ gO1.2 gO1.1).1; have o0 : w2.cell? ⟨tq, 0, none⟩ = some (.string ⟨ps.toArray⟩) := cell_block gO2 rfl; have o1 : w2.cell? ⟨tq, 1, none⟩ = some (.int .i64 3) := cell_block gO2 rfl; have d0 := cellB q2.t.bl u0; have d1 := cellB q2.t.bl u1; have d2 := cellB q2.t.bl u2; have d3 := cellB q2.t.bl u3) | (go_at_call 160; refine (hw1 _ hTV).mono ?_; rintro e w1 q1; have e1 := q1.e; subst e1; have gO1 := q1.k _ _ aO gO; have o0 : w1.cell? ⟨tq, 0, none⟩ = some (.string ⟨ps.toArray⟩) := cell_block gO1.1 rfl; have o1 : w1.cell? ⟨tq, 1, none⟩ = some (.int .i64 3) := cell_block gO1.1 rfl))
      go_region_held3 (fun u => u.cell? ⟨W.heap.size, 3, none⟩ = some (.slice (some ⟨g, off, none⟩) 2 cap) ∧ u.cell? ⟨g, off + 4, none⟩ = some (.int .i64 z.k) ∧ u.cell? ⟨g, off + 4 + 1, none⟩ = some (sk z.t) ∧ u.cell? ⟨g, off + 4 + 2, none⟩ = some (.int .i64 z.n) ∧ u.cell? ⟨g, off + 4 + 3, none⟩ = some (.slice b2 z.kids.length cap2) ∧ u.cell? ⟨tq, 1, none⟩ = some (.int .i64 3)) (go_keep) (first | (go_at_call 160; refine (hw2 _ (q2.t.on (Below.refl _ _).drew)).mono ?_; rintro e w3 q3'; have q3 := q3'.of q2.t (Below.refl _ _).drew; have e3 := q3.e; subst e3; have hX3 := hX2.on q3; obtain ⟨c0, c1, c2, c3, f0, f1, f2, f3⟩ := in4 hX3.g; have gO3 := (q3.k _ _ (q2.k _ _ gO1.2 gO1.1).2 gO2).1; have o1 : w3.cell? ⟨tq, 1, none⟩ = some (.int .i64 3) := cell_block gO3 rfl; have d0 := cellB q3.t.bl u0; have d1 := cellB q3.t.bl u1; have d2 := cellB q3.t.bl u2; have d3 := cellB q3.t.bl u3))
      go_wp2
      go_end0
      have q := ((q1.then q2).then q3).of hT (ext_trans hb0 hbV)
      simpa [atB] using q
  · rw [if_neg (by decide)] at hle
    subst hle
    rw [show ((3 : Nat) : Int) + 1 = 4 by rfl] at hL
    have hw1 := fun u (h : Wt w0 B m ts u) => within_of y hoy hy 3 m D b1 cap1 w0 B ts u hF hyV h (by unfold atB at hlen; omega)
    have hw2 := fun u (h : Wt w0 B m (ts ++ atB 3 y ++ [ps]) u) => within_of z hoz hz (3 + 1) m D b2 cap2 w0 B (ts ++ atB 3 y ++ [ps]) u hF hzV h (by unfold atB at hlen ⊢; simp at hlen ⊢; omega)
    rw [show ((3 : Nat) : Int) + 1 = 4 by rfl] at hw1
    rw [show ((3 + 1 : Nat) : Int) + 1 = 5 by rfl] at hw2
    clear hy hz hyV hzV
    go_enter Tryz.func148, Tryz.ntmps148
    go_wp2
    go_region_held3 (fun u => u.cell? ⟨B, 2, none⟩ = some (.map (some m.c)) ∧ u.cell? ⟨W.heap.size, 2, none⟩ = some (.int .i64 n) ∧ LkS m.c kv u) (go_keep) (fail)
    all_goals
      have hbV := (ext_alloc (Below.refl U.heap.size U) (.cells #[.string ⟨ps.toArray⟩, .int .i64 4] 77)).drew
      have gO : (U.alloc (.cells #[.string ⟨ps.toArray⟩, .int .i64 4] 77)).drew.heap[U.heap.size]? = some (.cells #[.string ⟨ps.toArray⟩, .int .i64 4] 77) := alloc_new U _
      have hTV := hT0.on hbV
      have hXV := hX0.below hBU hbV
      have aO : Apart B (U.alloc (.cells #[.string ⟨ps.toArray⟩, .int .i64 4] 77)).drew U.heap.size := ⟨by omega, fun c0 c1 c2 c3 c4 v hv e => by have := (hT0.own_lt ((hbV.block B hBU).symm.trans hv) e).1; omega⟩
      obtain ⟨V, hV⟩ : ∃ V, (U.alloc (.cells #[.string ⟨ps.toArray⟩, .int .i64 4] 77)).drew = V := ⟨_, rfl⟩
      rw [hV] at hbV gO hTV hXV aO
      rw [hV]
      obtain ⟨tq, hto⟩ : ∃ z, U.heap.size = z := ⟨_, rfl⟩
      rw [hto] at gO aO
      rw [hto]
      obtain ⟨c0, c1, c2, c3, f0, f1, f2, f3⟩ := in4 hXV.g
      have o0 : V.cell? ⟨tq, 0, none⟩ = some (.string ⟨ps.toArray⟩) := cell_block gO rfl
      have o1 : V.cell? ⟨tq, 1, none⟩ = some (.int .i64 4) := cell_block gO rfl
      have d0 := cellB hTV.bl v0
      have d1 := cellB hTV.bl v1
      have d2 := cellB hTV.bl v2
      have d3 := cellB hTV.bl v3
      clear hV hto hL k0 k1 k2 k3 w2c n1 n2 n3 n4
      refine Lib.hid ?_
      go_wp2_with (first | (go_at_call 77; refine (q1.t.put1 ps (by simp [atB] at hlen ⊢; omega)).mono ?_; rintro e w2 q2; have e2 := q2.e; subst e2; have hX2 := (hXV.on q1).on q2; obtain ⟨c0, c1, c2, c3, f0, f1, f2, f3⟩ := in4 hX2.g; have gO2 := (q2.k _ _ gO1.2 gO1.1).1; have o0 : w2.cell? ⟨tq, 0, none⟩ = some (.string ⟨ps.toArray⟩) := cell_block gO2 rfl; have o1 : w2.cell? ⟨tq, 1, none⟩ = some (.int .i64 4) := cell_block gO2 rfl; have d0 := cellB q2.t.bl u0; have d1 := cellB q2.t.bl u1; have d2 := cellB q2.t.bl u2; have d3 := cellB q2.t.bl u3) | (go_at_call 160; refine (hw1 _ hTV).mono ?_; rintro e w1 q1; have e1 := q1.e; subst e1; have gO1 := q1.k _ _ aO gO; have o0 : w1.cell? ⟨tq, 0, none⟩ = some (.string ⟨ps.toArray⟩) := cell_block gO1.1 rfl; have o1 : w1.cell? ⟨tq, 1, none⟩ = some (.int .i64 4) := cell_block gO1.1 rfl))
      go_region_held3 (fun u => u.cell? ⟨W.heap.size, 3, none⟩ = some (.slice (some ⟨g, off, none⟩) 2 cap) ∧ u.cell? ⟨g, off + 4, none⟩ = some (.int .i64 z.k) ∧ u.cell? ⟨g, off + 4 + 1, none⟩ = some (sk z.t) ∧ u.cell? ⟨g, off + 4 + 2, none⟩ = some (.int .i64 z.n) ∧ u.cell? ⟨g, off + 4 + 3, none⟩ = some (.slice b2 z.kids.length cap2) ∧ u.cell? ⟨tq, 1, none⟩ = some (.int .i64 4)) (go_keep) (first | (go_at_call 160; refine (hw2 _ (q2.t.on (Below.refl _ _).drew)).mono ?_; rintro e w3 q3'; have q3 := q3'.of q2.t (Below.refl _ _).drew; have e3 := q3.e; subst e3; have hX3 := hX2.on q3; obtain ⟨c0, c1, c2, c3, f0, f1, f2, f3⟩ := in4 hX3.g; have gO3 := (q3.k _ _ (q2.k _ _ gO1.2 gO1.1).2 gO2).1; have o1 : w3.cell? ⟨tq, 1, none⟩ = some (.int .i64 4) := cell_block gO3 rfl; have d0 := cellB q3.t.bl u0; have d1 := cellB q3.t.bl u1; have d2 := cellB q3.t.bl u2; have d3 := cellB q3.t.bl u3))
      go_wp2
      go_end0
      have q := ((q1.then q2).then q3).of hT (ext_trans hb0 hbV)
      simpa [atB] using q
  · rw [if_neg (by decide)] at hle
    subst hle
    rw [show ((4 : Nat) : Int) + 1 = 5 by rfl] at hL
    have hw1 := fun u (h : Wt w0 B m ts u) => within_of y hoy hy 4 m D b1 cap1 w0 B ts u hF hyV h (by unfold atB at hlen; omega)
    have hw2 := fun u (h : Wt w0 B m (ts ++ atB 4 y ++ [ps]) u) => within_of z hoz hz (4 + 1) m D b2 cap2 w0 B (ts ++ atB 4 y ++ [ps]) u hF hzV h (by unfold atB at hlen ⊢; simp at hlen ⊢; omega)
    rw [show ((4 : Nat) : Int) + 1 = 5 by rfl] at hw1
    rw [show ((4 + 1 : Nat) : Int) + 1 = 6 by rfl] at hw2
    clear hy hz hyV hzV
    go_enter Tryz.func148, Tryz.ntmps148
    go_wp2
    go_region_held3 (fun u => u.cell? ⟨B, 2, none⟩ = some (.map (some m.c)) ∧ u.cell? ⟨W.heap.size, 2, none⟩ = some (.int .i64 n) ∧ LkS m.c kv u) (go_keep) (fail)
    all_goals
      have hbV := (ext_alloc (Below.refl U.heap.size U) (.cells #[.string ⟨ps.toArray⟩, .int .i64 5] 77)).drew
      have gO : (U.alloc (.cells #[.string ⟨ps.toArray⟩, .int .i64 5] 77)).drew.heap[U.heap.size]? = some (.cells #[.string ⟨ps.toArray⟩, .int .i64 5] 77) := alloc_new U _
      have hTV := hT0.on hbV
      have hXV := hX0.below hBU hbV
      have aO : Apart B (U.alloc (.cells #[.string ⟨ps.toArray⟩, .int .i64 5] 77)).drew U.heap.size := ⟨by omega, fun c0 c1 c2 c3 c4 v hv e => by have := (hT0.own_lt ((hbV.block B hBU).symm.trans hv) e).1; omega⟩
      obtain ⟨V, hV⟩ : ∃ V, (U.alloc (.cells #[.string ⟨ps.toArray⟩, .int .i64 5] 77)).drew = V := ⟨_, rfl⟩
      rw [hV] at hbV gO hTV hXV aO
      rw [hV]
      obtain ⟨tq, hto⟩ : ∃ z, U.heap.size = z := ⟨_, rfl⟩
      rw [hto] at gO aO
      rw [hto]
      obtain ⟨c0, c1, c2, c3, f0, f1, f2, f3⟩ := in4 hXV.g
      have o0 : V.cell? ⟨tq, 0, none⟩ = some (.string ⟨ps.toArray⟩) := cell_block gO rfl
      have o1 : V.cell? ⟨tq, 1, none⟩ = some (.int .i64 5) := cell_block gO rfl
      have d0 := cellB hTV.bl v0
      have d1 := cellB hTV.bl v1
      have d2 := cellB hTV.bl v2
      have d3 := cellB hTV.bl v3
      clear hV hto hL k0 k1 k2 k3 w2c n1 n2 n3 n4
      refine Lib.hid ?_
      go_wp2_with (first | (go_at_call 77; refine (q1.t.put1 ps (by simp [atB] at hlen ⊢; omega)).mono ?_; rintro e w2 q2; have e2 := q2.e; subst e2; have hX2 := (hXV.on q1).on q2; obtain ⟨c0, c1, c2, c3, f0, f1, f2, f3⟩ := in4 hX2.g; have gO2 := (q2.k _ _ gO1.2 gO1.1).1; have o0 : w2.cell? ⟨tq, 0, none⟩ = some (.string ⟨ps.toArray⟩) := cell_block gO2 rfl; have o1 : w2.cell? ⟨tq, 1, none⟩ = some (.int .i64 5) := cell_block gO2 rfl; have d0 := cellB q2.t.bl u0; have d1 := cellB q2.t.bl u1; have d2 := cellB q2.t.bl u2; have d3 := cellB q2.t.bl u3) | (go_at_call 160; refine (hw1 _ hTV).mono ?_; rintro e w1 q1; have e1 := q1.e; subst e1; have gO1 := q1.k _ _ aO gO; have o0 : w1.cell? ⟨tq, 0, none⟩ = some (.string ⟨ps.toArray⟩) := cell_block gO1.1 rfl; have o1 : w1.cell? ⟨tq, 1, none⟩ = some (.int .i64 5) := cell_block gO1.1 rfl))
      go_region_held3 (fun u => u.cell? ⟨W.heap.size, 3, none⟩ = some (.slice (some ⟨g, off, none⟩) 2 cap) ∧ u.cell? ⟨g, off + 4, none⟩ = some (.int .i64 z.k) ∧ u.cell? ⟨g, off + 4 + 1, none⟩ = some (sk z.t) ∧ u.cell? ⟨g, off + 4 + 2, none⟩ = some (.int .i64 z.n) ∧ u.cell? ⟨g, off + 4 + 3, none⟩ = some (.slice b2 z.kids.length cap2) ∧ u.cell? ⟨tq, 1, none⟩ = some (.int .i64 5)) (go_keep) (first | (go_at_call 160; refine (hw2 _ (q2.t.on (Below.refl _ _).drew)).mono ?_; rintro e w3 q3'; have q3 := q3'.of q2.t (Below.refl _ _).drew; have e3 := q3.e; subst e3; have hX3 := hX2.on q3; obtain ⟨c0, c1, c2, c3, f0, f1, f2, f3⟩ := in4 hX3.g; have gO3 := (q3.k _ _ (q2.k _ _ gO1.2 gO1.1).2 gO2).1; have o1 : w3.cell? ⟨tq, 1, none⟩ = some (.int .i64 5) := cell_block gO3 rfl; have d0 := cellB q3.t.bl u0; have d1 := cellB q3.t.bl u1; have d2 := cellB q3.t.bl u2; have d3 := cellB q3.t.bl u3))
      go_wp2
      go_end0
      have q := ((q1.then q2).then q3).of hT (ext_trans hb0 hbV)
      simpa [atB] using q
  · rw [if_neg (by decide)] at hle
    subst hle
    rw [show ((5 : Nat) : Int) + 1 = 6 by rfl] at hL
    have hw1 := fun u (h : Wt w0 B m ts u) => within_of y hoy hy 5 m D b1 cap1 w0 B ts u hF hyV h (by unfold atB at hlen; omega)
    have hw2 := fun u (h : Wt w0 B m (ts ++ atB 5 y ++ [ps]) u) => within_of z hoz hz (5 + 1) m D b2 cap2 w0 B (ts ++ atB 5 y ++ [ps]) u hF hzV h (by unfold atB at hlen ⊢; simp at hlen ⊢; omega)
    rw [show ((5 : Nat) : Int) + 1 = 6 by rfl] at hw1
    rw [show ((5 + 1 : Nat) : Int) + 1 = 7 by rfl] at hw2
    clear hy hz hyV hzV
    go_enter Tryz.func148, Tryz.ntmps148
    go_wp2
    go_region_held3 (fun u => u.cell? ⟨B, 2, none⟩ = some (.map (some m.c)) ∧ u.cell? ⟨W.heap.size, 2, none⟩ = some (.int .i64 n) ∧ LkS m.c kv u) (go_keep) (fail)
    all_goals
      have hbV := (ext_alloc (Below.refl U.heap.size U) (.cells #[.string ⟨ps.toArray⟩, .int .i64 6] 77)).drew
      have gO : (U.alloc (.cells #[.string ⟨ps.toArray⟩, .int .i64 6] 77)).drew.heap[U.heap.size]? = some (.cells #[.string ⟨ps.toArray⟩, .int .i64 6] 77) := alloc_new U _
      have hTV := hT0.on hbV
      have hXV := hX0.below hBU hbV
      have aO : Apart B (U.alloc (.cells #[.string ⟨ps.toArray⟩, .int .i64 6] 77)).drew U.heap.size := ⟨by omega, fun c0 c1 c2 c3 c4 v hv e => by have := (hT0.own_lt ((hbV.block B hBU).symm.trans hv) e).1; omega⟩
      obtain ⟨V, hV⟩ : ∃ V, (U.alloc (.cells #[.string ⟨ps.toArray⟩, .int .i64 6] 77)).drew = V := ⟨_, rfl⟩
      rw [hV] at hbV gO hTV hXV aO
      rw [hV]
      obtain ⟨tq, hto⟩ : ∃ z, U.heap.size = z := ⟨_, rfl⟩
      rw [hto] at gO aO
      rw [hto]
      obtain ⟨c0, c1, c2, c3, f0, f1, f2, f3⟩ := in4 hXV.g
      have o0 : V.cell? ⟨tq, 0, none⟩ = some (.string ⟨ps.toArray⟩) := cell_block gO rfl
      have o1 : V.cell? ⟨tq, 1, none⟩ = some (.int .i64 6) := cell_block gO rfl
      have d0 := cellB hTV.bl v0
      have d1 := cellB hTV.bl v1
      have d2 := cellB hTV.bl v2
      have d3 := cellB hTV.bl v3
      clear hV hto hL k0 k1 k2 k3 w2c n1 n2 n3 n4
      refine Lib.hid ?_
      go_wp2_with (first | (go_at_call 77; refine (q1.t.put1 ps (by simp [atB] at hlen ⊢; omega)).mono ?_; rintro e w2 q2; have e2 := q2.e; subst e2; have hX2 := (hXV.on q1).on q2; obtain ⟨c0, c1, c2, c3, f0, f1, f2, f3⟩ := in4 hX2.g; have gO2 := (q2.k _ _ gO1.2 gO1.1).1; have o0 : w2.cell? ⟨tq, 0, none⟩ = some (.string ⟨ps.toArray⟩) := cell_block gO2 rfl; have o1 : w2.cell? ⟨tq, 1, none⟩ = some (.int .i64 6) := cell_block gO2 rfl; have d0 := cellB q2.t.bl u0; have d1 := cellB q2.t.bl u1; have d2 := cellB q2.t.bl u2; have d3 := cellB q2.t.bl u3) | (go_at_call 160; refine (hw1 _ hTV).mono ?_; rintro e w1 q1; have e1 := q1.e; subst e1; have gO1 := q1.k _ _ aO gO; have o0 : w1.cell? ⟨tq, 0, none⟩ = some (.string ⟨ps.toArray⟩) := cell_block gO1.1 rfl; have o1 : w1.cell? ⟨tq, 1, none⟩ = some (.int .i64 6) := cell_block gO1.1 rfl))
      go_region_held3 (fun u => u.cell? ⟨W.heap.size, 3, none⟩ = some (.slice (some ⟨g, off, none⟩) 2 cap) ∧ u.cell? ⟨g, off + 4, none⟩ = some (.int .i64 z.k) ∧ u.cell? ⟨g, off + 4 + 1, none⟩ = some (sk z.t) ∧ u.cell? ⟨g, off + 4 + 2, none⟩ = some (.int .i64 z.n) ∧ u.cell? ⟨g, off + 4 + 3, none⟩ = some (.slice b2 z.kids.length cap2) ∧ u.cell? ⟨tq, 1, none⟩ = some (.int .i64 6)) (go_keep) (first | (go_at_call 160; refine (hw2 _ (q2.t.on (Below.refl _ _).drew)).mono ?_; rintro e w3 q3'; have q3 := q3'.of q2.t (Below.refl _ _).drew; have e3 := q3.e; subst e3; have hX3 := hX2.on q3; obtain ⟨c0, c1, c2, c3, f0, f1, f2, f3⟩ := in4 hX3.g; have gO3 := (q3.k _ _ (q2.k _ _ gO1.2 gO1.1).2 gO2).1; have o1 : w3.cell? ⟨tq, 1, none⟩ = some (.int .i64 6) := cell_block gO3 rfl; have d0 := cellB q3.t.bl u0; have d1 := cellB q3.t.bl u1; have d2 := cellB q3.t.bl u2; have d3 := cellB q3.t.bl u3))
      go_wp2
      go_end0
      have q := ((q1.then q2).then q3).of hT (ext_trans hb0 hbV)
      simpa [atB] using q
end Go.Proofs.YtbdkiimggggndaaGreatDoor
namespace Go.Proofs.YtbdkiimggggndaaGreatDoor
open Go.RowKit
open Go

theorem cbN_one (z : Nd) : cbN [z] = bsN z := by simp [cbN, commaT, info, bsN]
theorem cbN_nil : cbN [] = [] := rfl
theorem round_b (l : List Nd) : (roundT (l.map info)).map bytesOf = [S.lp] ++ cbN l ++ [S.rp] := by
  unfold roundT
  by_cases h : l = []
  · subst h; simp [cbN, commaT, bytesOf]
  · rw [if_neg (by simpa using h)]
    simp [cbN, bytesOf]

theorem bs_nil (t : List UInt8) (n : Int) : bsN ⟨15, t, n, []⟩ = [W.nil_] := by
  unfold bsN
  rw [showT_eq]
  simp [comb, bytesOf]
set_option maxRecDepth 20000 in
set_option maxHeartbeats 1000000 in
theorem xw_nil (t : List UInt8) (n : Int) : Puts 125 ⟨15, t, n, []⟩ (bsN ⟨15, t, n, []⟩) := by
  intro m D b cap w0 B ts W hF hN hT hlen
  rw [bs_nil] at hlen ⊢
  simp only [List.length_cons, List.length_nil] at hlen
  have hb0 := ext_alloc (Below.refl W.heap.size W) (nbx ⟨15, t, n, []⟩ b cap)
  have hT0 := hT.on hb0
  have hX0 := bx_new hT ⟨15, t, n, []⟩ b cap
  obtain ⟨U, hU⟩ : ∃ U, W.alloc (nbx ⟨15, t, n, []⟩ b cap) = U := ⟨_, rfl⟩
  rw [hU] at hT0 hX0 hb0
  replace hU : W.alloc (.cells #[.int .i64 15, sk t, .int .i64 n, .slice b 0 cap] 24) = U := hU
  obtain ⟨c0, c1, c2, c3, f0, f1, f2, f3⟩ := in4 hX0.g
  go_enter Tryz.func125, Tryz.ntmps125
  go_wp2_with (go_at_call 77; refine (hT0.put1 [110, 105, 108] (by omega)).mono ?_; rintro e w2 q2; have e2 := q2.e; subst e2)
  go_end0
  exact q2.of hT hb0
theorem bs_true (t : List UInt8) (n : Int) : bsN ⟨16, t, n, []⟩ = [W.true_] := by
  unfold bsN
  rw [showT_eq]
  simp [comb, bytesOf]
set_option maxRecDepth 20000 in
set_option maxHeartbeats 1000000 in
theorem xw_true (t : List UInt8) (n : Int) : Puts 125 ⟨16, t, n, []⟩ (bsN ⟨16, t, n, []⟩) := by
  intro m D b cap w0 B ts W hF hN hT hlen
  rw [bs_true] at hlen ⊢
  simp only [List.length_cons, List.length_nil] at hlen
  have hb0 := ext_alloc (Below.refl W.heap.size W) (nbx ⟨16, t, n, []⟩ b cap)
  have hT0 := hT.on hb0
  have hX0 := bx_new hT ⟨16, t, n, []⟩ b cap
  obtain ⟨U, hU⟩ : ∃ U, W.alloc (nbx ⟨16, t, n, []⟩ b cap) = U := ⟨_, rfl⟩
  rw [hU] at hT0 hX0 hb0
  replace hU : W.alloc (.cells #[.int .i64 16, sk t, .int .i64 n, .slice b 0 cap] 24) = U := hU
  obtain ⟨c0, c1, c2, c3, f0, f1, f2, f3⟩ := in4 hX0.g
  go_enter Tryz.func125, Tryz.ntmps125
  go_wp2_with (go_at_call 77; refine (hT0.put1 [116, 114, 117, 101] (by omega)).mono ?_; rintro e w2 q2; have e2 := q2.e; subst e2)
  go_end0
  exact q2.of hT hb0
theorem bs_false (t : List UInt8) (n : Int) : bsN ⟨17, t, n, []⟩ = [W.false_] := by
  unfold bsN
  rw [showT_eq]
  simp [comb, bytesOf]
set_option maxRecDepth 20000 in
set_option maxHeartbeats 1000000 in
theorem xw_false (t : List UInt8) (n : Int) : Puts 125 ⟨17, t, n, []⟩ (bsN ⟨17, t, n, []⟩) := by
  intro m D b cap w0 B ts W hF hN hT hlen
  rw [bs_false] at hlen ⊢
  simp only [List.length_cons, List.length_nil] at hlen
  have hb0 := ext_alloc (Below.refl W.heap.size W) (nbx ⟨17, t, n, []⟩ b cap)
  have hT0 := hT.on hb0
  have hX0 := bx_new hT ⟨17, t, n, []⟩ b cap
  obtain ⟨U, hU⟩ : ∃ U, W.alloc (nbx ⟨17, t, n, []⟩ b cap) = U := ⟨_, rfl⟩
  rw [hU] at hT0 hX0 hb0
  replace hU : W.alloc (.cells #[.int .i64 17, sk t, .int .i64 n, .slice b 0 cap] 24) = U := hU
  obtain ⟨c0, c1, c2, c3, f0, f1, f2, f3⟩ := in4 hX0.g
  go_enter Tryz.func125, Tryz.ntmps125
  go_wp2_with (go_at_call 77; refine (hT0.put1 [102, 97, 108, 115, 101] (by omega)).mono ?_; rintro e w2 q2; have e2 := q2.e; subst e2)
  go_end0
  exact q2.of hT hb0
theorem bs_name (t : List UInt8) (n : Int) : bsN ⟨18, t, n, []⟩ = [t] := by
  unfold bsN
  rw [showT_eq]
  simp [comb, bytesOf]
set_option maxRecDepth 20000 in
set_option maxHeartbeats 1000000 in
theorem xw_name (t : List UInt8) (n : Int) : Puts 125 ⟨18, t, n, []⟩ (bsN ⟨18, t, n, []⟩) := by
  intro m D b cap w0 B ts W hF hN hT hlen
  rw [bs_name] at hlen ⊢
  simp only [List.length_cons, List.length_nil] at hlen
  have hb0 := ext_alloc (Below.refl W.heap.size W) (nbx ⟨18, t, n, []⟩ b cap)
  have hT0 := hT.on hb0
  have hX0 := bx_new hT ⟨18, t, n, []⟩ b cap
  obtain ⟨U, hU⟩ : ∃ U, W.alloc (nbx ⟨18, t, n, []⟩ b cap) = U := ⟨_, rfl⟩
  rw [hU] at hT0 hX0 hb0
  replace hU : W.alloc (.cells #[.int .i64 18, sk t, .int .i64 n, .slice b 0 cap] 24) = U := hU
  obtain ⟨c0, c1, c2, c3, f0, f1, f2, f3⟩ := in4 hX0.g
  go_enter Tryz.func125, Tryz.ntmps125
  go_wp2_with (go_at_call 77; refine (hT0.put1 t (by omega)).mono ?_; rintro e w2 q2; have e2 := q2.e; subst e2)
  go_end0
  exact q2.of hT hb0
theorem bs_new (t : List UInt8) (n : Int) : bsN ⟨19, t, n, []⟩ = [S.lc, S.rc] := by
  unfold bsN
  rw [showT_eq]
  simp [comb, bytesOf]
set_option maxRecDepth 20000 in
set_option maxHeartbeats 1000000 in
theorem xw_new (t : List UInt8) (n : Int) : Puts 125 ⟨19, t, n, []⟩ (bsN ⟨19, t, n, []⟩) := by
  intro m D b cap w0 B ts W hF hN hT hlen
  rw [bs_new] at hlen ⊢
  simp only [List.length_cons, List.length_nil] at hlen
  have hb0 := ext_alloc (Below.refl W.heap.size W) (nbx ⟨19, t, n, []⟩ b cap)
  have hT0 := hT.on hb0
  have hX0 := bx_new hT ⟨19, t, n, []⟩ b cap
  obtain ⟨U, hU⟩ : ∃ U, W.alloc (nbx ⟨19, t, n, []⟩ b cap) = U := ⟨_, rfl⟩
  rw [hU] at hT0 hX0 hb0
  replace hU : W.alloc (.cells #[.int .i64 19, sk t, .int .i64 n, .slice b 0 cap] 24) = U := hU
  obtain ⟨c0, c1, c2, c3, f0, f1, f2, f3⟩ := in4 hX0.g
  go_enter Tryz.func125, Tryz.ntmps125
  go_wp2_with (go_at_call 77; refine (hT0.put2 [123] [125] (by omega)).mono ?_; rintro e w2 q2; have e2 := q2.e; subst e2)
  go_end0
  exact q2.of hT hb0
theorem bs_text (t : List UInt8) (n : Int) : bsN ⟨14, t, n, []⟩ = [34 :: (t ++ [34])] := by
  unfold bsN
  rw [showT_eq]
  simp [comb, bytesOf]
set_option maxRecDepth 20000 in
set_option maxHeartbeats 1000000 in
theorem xw_text (t : List UInt8) (n : Int) (ht : t.length ≤ 1000000) : Puts 125 ⟨14, t, n, []⟩ (bsN ⟨14, t, n, []⟩) := by
  intro m D b cap w0 B ts W hF hN hT hlen
  rw [bs_text] at hlen ⊢
  simp only [List.length_cons, List.length_nil] at hlen
  have hb0 := ext_alloc (Below.refl W.heap.size W) (nbx ⟨14, t, n, []⟩ b cap)
  have hT0 := hT.on hb0
  have hX0 := bx_new hT ⟨14, t, n, []⟩ b cap
  obtain ⟨U, hU⟩ : ∃ U, W.alloc (nbx ⟨14, t, n, []⟩ b cap) = U := ⟨_, rfl⟩
  rw [hU] at hT0 hX0 hb0
  replace hU : W.alloc (.cells #[.int .i64 14, sk t, .int .i64 n, .slice b 0 cap] 24) = U := hU
  obtain ⟨c0, c1, c2, c3, f0, f1, f2, f3⟩ := in4 hX0.g
  have hadd1 := fun (wx : World) => run_string_add_sum (P := Tryz.prog) (w := wx) ⟨#[34]⟩ ⟨t.toArray⟩ (by show 1 + t.toArray.size ≤ _; simp; omega)
  have hadd2 := fun (wx : World) => run_string_add_sum (P := Tryz.prog) (w := wx) (⟨#[34]⟩ ++ ⟨t.toArray⟩) ⟨#[34]⟩ (by rw [ByteArray.size_append]; show 1 + t.toArray.size + 1 ≤ _; simp; omega)
  have es : (⟨#[34]⟩ ++ ⟨t.toArray⟩ ++ ⟨#[34]⟩ : ByteArray) = ⟨(34 :: (t ++ [34])).toArray⟩ := by
    apply ByteArray.ext
    simp
  rw [es] at hadd2
  go_enter Tryz.func125, Tryz.ntmps125
  go_wp2_with (go_at_call 77; refine (hT0.put1 (34 :: (t ++ [34])) (by omega)).mono ?_; rintro e w2 q2; have e2 := q2.e; subst e2)
  go_end0
  exact q2.of hT hb0
theorem bs_int (t : List UInt8) (n : Int) : bsN ⟨13, t, n, []⟩ = [digitsN n.toNat] := by
  unfold bsN
  rw [showT_eq]
  simp [comb, bytesOf]
set_option maxRecDepth 20000 in
set_option maxHeartbeats 1000000 in
theorem xw_int (t : List UInt8) (n : Int) (h0 : 0 ≤ n) (h1 : n ≤ 9223372036854775807) : Puts 125 ⟨13, t, n, []⟩ (bsN ⟨13, t, n, []⟩) := by
  intro m D b cap w0 B ts W hF hN hT hlen
  rw [bs_int] at hlen ⊢
  simp only [List.length_cons, List.length_nil] at hlen
  have hb0 := ext_alloc (Below.refl W.heap.size W) (nbx ⟨13, t, n, []⟩ b cap)
  have hT0 := hT.on hb0
  have hX0 := bx_new hT ⟨13, t, n, []⟩ b cap
  obtain ⟨U, hU⟩ : ∃ U, W.alloc (nbx ⟨13, t, n, []⟩ b cap) = U := ⟨_, rfl⟩
  rw [hU] at hT0 hX0 hb0
  replace hU : W.alloc (.cells #[.int .i64 13, sk t, .int .i64 n, .slice b 0 cap] 24) = U := hU
  obtain ⟨c0, c1, c2, c3, f0, f1, f2, f3⟩ := in4 hX0.g
  have hI := Tryz.strconv_FormatInt_10 n (by omega) h1 U (hF.on hT0.bl).p
  have hd : Lib.itoa n = digitsN n.toNat := by unfold Lib.itoa digitsN; rw [if_neg (by omega)]
  rw [hd] at hI
  have hI2 : Calls Tryz.prog 146 #[.int .i64 n, .int .i64 10] U fun e w' => e = .returned (sk (digitsN n.toNat)) ∧ Below U.heap.size U w' := hI.mono fun e w' h => by
    obtain ⟨h1, k, os, rfl⟩ := h
    exact ⟨h1, Lib.below_grow _ _ (Nat.le_refl _) k os⟩
  clear hI hd
  go_enter Tryz.func125, Tryz.ntmps125
  go_wp2_with (first | (go_at_call 146; refine hI2.mono ?_; rintro e w1 ⟨rfl, hb1⟩; have hT1 := hT0.on hb1) | (go_at_call 77; refine (hT1.put1 (digitsN n.toNat) (by omega)).mono ?_; rintro e w2 q2; have e2 := q2.e; subst e2))
  go_end0
  exact q2.of hT (ext_trans hb0 hb1)
theorem bs_not (t : List UInt8) (n : Int) (y : Nd) : bsN ⟨23, t, n, [y]⟩ = [W.not_] ++ atB 6 y := by
  unfold bsN atB
  rw [show_not]
  simp [bytesOf]
set_option maxRecDepth 20000 in
set_option maxHeartbeats 1000000 in
theorem xw_not (t : List UInt8) (n : Int) (y : Nd) (hop : opd y) (hx : Puts 125 y (bsN y)) : Puts 125 ⟨23, t, n, [y]⟩ (bsN ⟨23, t, n, [y]⟩) := by
  intro m D b cap w0 B ts W hF hN hT hlen
  rw [bs_not] at hlen ⊢
  simp only [List.length_append, List.length_cons, List.length_nil] at hlen
  have hb0 := ext_alloc (Below.refl W.heap.size W) (nbx ⟨23, t, n, [y]⟩ b cap)
  have hT0 := hT.on hb0
  have hX0 := bx_new hT ⟨23, t, n, [y]⟩ b cap
  obtain ⟨U, hU⟩ : ∃ U, W.alloc (nbx ⟨23, t, n, [y]⟩ b cap) = U := ⟨_, rfl⟩
  rw [hU] at hT0 hX0 hb0
  replace hU : W.alloc (.cells #[.int .i64 23, sk t, .int .i64 n, .slice b 1 cap] 24) = U := hU
  obtain ⟨c0, c1, c2, c3, f0, f1, f2, f3⟩ := in4 hX0.g
  have hs := signed_of [110, 111, 116] 23 t n y hop hx m D b cap w0 B ts U hF hN hT0 (by omega)
  clear hx
  go_enter Tryz.func125, Tryz.ntmps125
  go_wp2_with (go_at_call 149; refine hs.mono ?_; rintro e w2 q2; have e2 := q2.e; subst e2)
  go_end0
  simpa using q2.of hT hb0
theorem bs_neg (t : List UInt8) (n : Int) (y : Nd) : bsN ⟨24, t, n, [y]⟩ = [S.mi] ++ atB 6 y := by
  unfold bsN atB
  rw [show_neg]
  simp [bytesOf]
set_option maxRecDepth 20000 in
set_option maxHeartbeats 1000000 in
theorem xw_neg (t : List UInt8) (n : Int) (y : Nd) (hop : opd y) (hx : Puts 125 y (bsN y)) : Puts 125 ⟨24, t, n, [y]⟩ (bsN ⟨24, t, n, [y]⟩) := by
  intro m D b cap w0 B ts W hF hN hT hlen
  rw [bs_neg] at hlen ⊢
  simp only [List.length_append, List.length_cons, List.length_nil] at hlen
  have hb0 := ext_alloc (Below.refl W.heap.size W) (nbx ⟨24, t, n, [y]⟩ b cap)
  have hT0 := hT.on hb0
  have hX0 := bx_new hT ⟨24, t, n, [y]⟩ b cap
  obtain ⟨U, hU⟩ : ∃ U, W.alloc (nbx ⟨24, t, n, [y]⟩ b cap) = U := ⟨_, rfl⟩
  rw [hU] at hT0 hX0 hb0
  replace hU : W.alloc (.cells #[.int .i64 24, sk t, .int .i64 n, .slice b 1 cap] 24) = U := hU
  obtain ⟨c0, c1, c2, c3, f0, f1, f2, f3⟩ := in4 hX0.g
  have hs := signed_of [45] 24 t n y hop hx m D b cap w0 B ts U hF hN hT0 (by omega)
  clear hx
  go_enter Tryz.func125, Tryz.ntmps125
  go_wp2_with (go_at_call 149; refine hs.mono ?_; rintro e w2 q2; have e2 := q2.e; subst e2)
  go_end0
  simpa using q2.of hT hb0
theorem bs_len (t : List UInt8) (n : Int) (y : Nd) : bsN ⟨25, t, n, [y]⟩ = [S.hs] ++ atB 6 y := by
  unfold bsN atB
  rw [show_len]
  simp [bytesOf]
set_option maxRecDepth 20000 in
set_option maxHeartbeats 1000000 in
theorem xw_len (t : List UInt8) (n : Int) (y : Nd) (hop : opd y) (hx : Puts 125 y (bsN y)) : Puts 125 ⟨25, t, n, [y]⟩ (bsN ⟨25, t, n, [y]⟩) := by
  intro m D b cap w0 B ts W hF hN hT hlen
  rw [bs_len] at hlen ⊢
  simp only [List.length_append, List.length_cons, List.length_nil] at hlen
  have hb0 := ext_alloc (Below.refl W.heap.size W) (nbx ⟨25, t, n, [y]⟩ b cap)
  have hT0 := hT.on hb0
  have hX0 := bx_new hT ⟨25, t, n, [y]⟩ b cap
  obtain ⟨U, hU⟩ : ∃ U, W.alloc (nbx ⟨25, t, n, [y]⟩ b cap) = U := ⟨_, rfl⟩
  rw [hU] at hT0 hX0 hb0
  replace hU : W.alloc (.cells #[.int .i64 25, sk t, .int .i64 n, .slice b 1 cap] 24) = U := hU
  obtain ⟨c0, c1, c2, c3, f0, f1, f2, f3⟩ := in4 hX0.g
  have hs := signed_of [35] 25 t n y hop hx m D b cap w0 B ts U hF hN hT0 (by omega)
  clear hx
  go_enter Tryz.func125, Tryz.ntmps125
  go_wp2_with (go_at_call 149; refine hs.mono ?_; rintro e w2 q2; have e2 := q2.e; subst e2)
  go_end0
  simpa using q2.of hT hb0
set_option maxRecDepth 20000 in
set_option maxHeartbeats 1000000 in
theorem xw_op (t : List UInt8) (n : Int) (y z : Nd) (hn : (opOf n).isSome = true) (hoy : opd y) (hoz : opd z) (hy : Puts 125 y (bsN y)) (hz : Puts 125 z (bsN z)) : Puts 125 ⟨22, t, n, [y, z]⟩ (bsN ⟨22, t, n, [y, z]⟩) := by
  intro m D b cap w0 B ts W hF hN hT hlen
  have hb0 := ext_alloc (Below.refl W.heap.size W) (nbx ⟨22, t, n, [y, z]⟩ b cap)
  have hT0 := hT.on hb0
  have hX0 := bx_new hT ⟨22, t, n, [y, z]⟩ b cap
  obtain ⟨U, hU⟩ : ∃ U, W.alloc (nbx ⟨22, t, n, [y, z]⟩ b cap) = U := ⟨_, rfl⟩
  rw [hU] at hT0 hX0 hb0
  replace hU : W.alloc (.cells #[.int .i64 22, sk t, .int .i64 n, .slice b 2 cap] 24) = U := hU
  obtain ⟨c0, c1, c2, c3, f0, f1, f2, f3⟩ := in4 hX0.g
  have hs := operation_of t n y z hn hoy hoz hy hz m D b cap w0 B ts U hF hN hT0 hlen
  clear hy hz
  obtain ⟨vs, hvs⟩ : ∃ v, bsN ⟨22, t, n, [y, z]⟩ = v := ⟨_, rfl⟩
  rw [hvs] at hs ⊢
  go_enter Tryz.func125, Tryz.ntmps125
  go_wp2_with (go_at_call 148; refine hs.mono ?_; rintro e w2 q2; have e2 := q2.e; subst e2)
  go_end0
  exact q2.of hT hb0
theorem bs_index (t : List UInt8) (n : Int) (y z : Nd) : bsN ⟨20, t, n, [y, z]⟩ = atB 7 y ++ ([S.lb] ++ (cbN [z] ++ [S.rb])) := by
  unfold bsN atB
  rw [show_index, cbN_one]
  simp [bytesOf, bsN]
set_option maxRecDepth 20000 in
set_option maxHeartbeats 1000000 in
theorem xw_index (t : List UInt8) (n : Int) (y z : Nd) (hop : opd y) (hx : Puts 125 y (bsN y)) (hz : Puts 125 z (bsN z)) : Puts 125 ⟨20, t, n, [y, z]⟩ (bsN ⟨20, t, n, [y, z]⟩) := by
  intro m D b cap w0 B ts W hF hN hT hlen
  rw [bs_index] at hlen ⊢
  simp only [List.length_append, List.length_cons, List.length_nil] at hlen
  have hb0 := ext_alloc (Below.refl W.heap.size W) (nbx ⟨20, t, n, [y, z]⟩ b cap)
  have hT0 := hT.on hb0
  have hX0 := bx_new hT ⟨20, t, n, [y, z]⟩ b cap
  obtain ⟨U, hU⟩ : ∃ U, W.alloc (nbx ⟨20, t, n, [y, z]⟩ b cap) = U := ⟨_, rfl⟩
  rw [hU] at hT0 hX0 hb0
  replace hU : W.alloc (.cells #[.int .i64 20, sk t, .int .i64 n, .slice b 2 cap] 24) = U := hU
  obtain ⟨c0, c1, c2, c3, f0, f1, f2, f3⟩ := in4 hX0.g
  have hs := suffixed_of [91] [93] 20 t n y [z] hop hx (fun x hx => by simp at hx; subst hx; exact hz) (by simp) m D b cap w0 B ts U hF hN hT0 (by omega)
  clear hx hz
  go_enter Tryz.func125, Tryz.ntmps125
  go_wp2_with (go_at_call 147; refine hs.mono ?_; rintro e w2 q2; have e2 := q2.e; subst e2)
  go_end0
  simpa using q2.of hT hb0
theorem bs_call (t : List UInt8) (n : Int) (y : Nd) (l : List Nd) : bsN ⟨21, t, n, y :: l⟩ = atB 7 y ++ ([S.lp] ++ (cbN l ++ [S.rp])) := by
  unfold bsN atB
  rw [show_call, List.map_append, round_b]
  simp
set_option maxRecDepth 20000 in
set_option maxHeartbeats 1000000 in
theorem xw_call (t : List UInt8) (n : Int) (y : Nd) (l : List Nd) (hop : opd y) (hx : Puts 125 y (bsN y)) (hl : ∀ z ∈ l, Puts 125 z (bsN z)) (hll : l.length ≤ 90000) : Puts 125 ⟨21, t, n, y :: l⟩ (bsN ⟨21, t, n, y :: l⟩) := by
  intro m D b cap w0 B ts W hF hN hT hlen
  rw [bs_call] at hlen ⊢
  simp only [List.length_append, List.length_cons, List.length_nil] at hlen
  have hb0 := ext_alloc (Below.refl W.heap.size W) (nbx ⟨21, t, n, y :: l⟩ b cap)
  have hT0 := hT.on hb0
  have hX0 := bx_new hT ⟨21, t, n, y :: l⟩ b cap
  obtain ⟨U, hU⟩ : ∃ U, W.alloc (nbx ⟨21, t, n, y :: l⟩ b cap) = U := ⟨_, rfl⟩
  rw [hU] at hT0 hX0 hb0
  replace hU : W.alloc (.cells #[.int .i64 21, sk t, .int .i64 n, .slice b (y :: l).length cap] 24) = U := hU
  obtain ⟨c0, c1, c2, c3, f0, f1, f2, f3⟩ := in4 hX0.g
  have hs := suffixed_of [40] [41] 21 t n y l hop hx hl hll m D b cap w0 B ts U hF hN hT0 (by omega)
  obtain ⟨L, hL⟩ : ∃ L, (y :: l).length = L := ⟨_, rfl⟩
  have hnd : ndv ⟨21, t, n, y :: l⟩ b cap = .agg #[.int .i64 21, sk t, .int .i64 n, .slice b L cap] := by rw [← hL]
  rw [hnd] at hs ⊢
  dsimp only at c3
  rw [hL] at c3 hU
  clear hx hl hnd
  replace hL : Hid _ := hL
  go_enter Tryz.func125, Tryz.ntmps125
  go_wp2_with (go_at_call 147; refine hs.mono ?_; rintro e w2 q2; have e2 := q2.e; subst e2)
  go_end0
  simpa using q2.of hT hb0
theorem bs_next (t : List UInt8) (n : Int) (y z : Nd) : bsN ⟨26, t, n, [y, z]⟩ = [W.next_, S.lp] ++ (cbN [y, z] ++ [S.rp]) := by
  unfold bsN cbN
  rw [show_next]
  simp [bytesOf, commaT, info]
set_option maxRecDepth 20000 in
set_option maxHeartbeats 1000000 in
theorem xw_next (t : List UInt8) (n : Int) (y z : Nd) (hy : Puts 125 y (bsN y)) (hz : Puts 125 z (bsN z)) : Puts 125 ⟨26, t, n, [y, z]⟩ (bsN ⟨26, t, n, [y, z]⟩) := by
  intro m D b cap w0 B ts W hF hN hT hlen
  rw [bs_next] at hlen ⊢
  simp only [List.length_append, List.length_cons, List.length_nil] at hlen
  have hb0 := ext_alloc (Below.refl W.heap.size W) (nbx ⟨26, t, n, [y, z]⟩ b cap)
  have hT0 := hT.on hb0
  have hX0 := bx_new hT ⟨26, t, n, [y, z]⟩ b cap
  obtain ⟨U, hU⟩ : ∃ U, W.alloc (nbx ⟨26, t, n, [y, z]⟩ b cap) = U := ⟨_, rfl⟩
  rw [hU] at hT0 hX0 hb0
  replace hU : W.alloc (.cells #[.int .i64 26, sk t, .int .i64 n, .slice b 2 cap] 24) = U := hU
  obtain ⟨c0, c1, c2, c3, f0, f1, f2, f3⟩ := in4 hX0.g
  have hr := fun u (h : Wt w0 B m (ts ++ [[110, 101, 120, 116], [40]]) u) => wrow_of [y, z] (fun x hx => by simp at hx; rcases hx with rfl | rfl; exact hy; exact hz) (by simp) m D b cap w0 B (ts ++ [[110, 101, 120, 116], [40]]) u hF (KA.of hN) h (by simp; omega)
  dsimp only [List.length_cons, List.length_nil] at hr c3
  clear hy hz
  go_enter Tryz.func125, Tryz.ntmps125
  go_wp2_with (first | (go_at_call 77; refine (q3.t.put1 [41] (by simp; omega)).mono ?_; rintro e w4 q4; have e4 := q4.e; subst e4) | (go_at_call 128; refine (hr _ q2.t).mono ?_; rintro e w3 q3; have e3 := q3.e; subst e3) | (go_at_call 77; refine (hT0.put2 [110, 101, 120, 116] [40] (by omega)).mono ?_; rintro e w2 q2; have e2 := q2.e; subst e2; have hX2 := hX0.on q2; obtain ⟨c0, c1, c2, c3, f0, f1, f2, f3⟩ := in4 hX2.g; dsimp only [List.length_cons, List.length_nil] at c3))
  go_end0
  simpa using ((q2.then q3).then q4).of hT hb0
end Go.Proofs.YtbdkiimggggndaaGreatDoor
namespace Go.Proofs.YtbdkiimggggndaaGreatDoor
open Go.RowKit
open Go

theorem opd_of {y : Nd} (h : isX y) : opd y := by
  intro hk
  obtain ⟨k, t, n, ks⟩ := y
  have hk' : k = 22 := hk
  subst hk'
  exact (isx22.1 h).1
theorem many_kid {ks : List Nd} {y : Nd} (h : y ∈ ks) : manyN y ≤ manyN.go ks := by
  induction ks with
  | nil => cases h
  | cons x l ih =>
    rw [manyN.go]
    rcases List.mem_cons.1 h with rfl | h
    · omega
    · have := ih h; omega
theorem puts_x (x : Nd) : isX x → manyN x ≤ 600 → Puts 125 x (bsN x) := by
  refine nd_ind (m := fun x => isX x → manyN x ≤ 600 → Puts 125 x (bsN x)) (fun k t n ks ih hx hm => ?_) x
  have hms : manyN ⟨k, t, n, ks⟩ = manyN.go ks + 1 := rfl
  have ih' : ∀ y ∈ ks, isX y → Puts 125 y (bsN y) := fun y hy hxy => ih y hy hxy (by have := many_kid hy; omega)
  have hk := hx.2
  simp only [exprK] at hk
  have hc : k = 13 ∨ k = 14 ∨ k = 15 ∨ k = 16 ∨ k = 17 ∨ k = 18 ∨ k = 19 ∨ k = 20 ∨ k = 21 ∨ k = 22 ∨ k = 23 ∨ k = 24 ∨ k = 25 ∨ k = 26 := by omega
  rcases hc with rfl | rfl | rfl | rfl | rfl | rfl | rfl | rfl | rfl | rfl | rfl | rfl | rfl | rfl
  · have h := (isN_iff 13 t n ks).1 hx.1
    have h13 := h.2.2.2.2.1 rfl
    obtain ⟨_, _, rfl⟩ := (isx13 h13.2).1 hx
    exact xw_int t n h13.1 h13.2
  · obtain ⟨_, hq, rfl⟩ := isx14.1 hx
    simp only [quotB, Bool.and_eq_true, decide_eq_true_eq] at hq
    exact xw_text t n (by omega)
  · obtain ⟨_, rfl⟩ := (isx15 (by decide)).1 hx
    exact xw_nil t n
  · obtain ⟨_, rfl⟩ := (isx15 (by decide)).1 hx
    exact xw_true t n
  · obtain ⟨_, rfl⟩ := (isx15 (by decide)).1 hx
    exact xw_false t n
  · obtain ⟨_, rfl⟩ := isx18.1 hx
    exact xw_name t n
  · obtain ⟨_, rfl⟩ := (isx15 (by decide)).1 hx
    exact xw_new t n
  · obtain ⟨_, y, z, rfl, hy, hz⟩ := (isx20 (by decide)).1 hx
    exact xw_index t n y z (opd_of hy) (ih' y (by simp) hy) (ih' z (by simp) hz)
  · obtain ⟨_, hl, hall⟩ := isx21.1 hx
    cases ks with
    | nil => simp at hl
    | cons y l =>
      have := many_len (y :: l)
      exact xw_call t n y l (opd_of (hall y (by simp))) (ih' y (by simp) (hall y (by simp))) (fun z hz => ih' z (by simp [hz]) (hall z (by simp [hz]))) (by simp at this; omega)
  · obtain ⟨ho, _, y, z, rfl, hy, hz⟩ := isx22.1 hx
    exact xw_op t n y z ho (opd_of hy) (opd_of hz) (ih' y (by simp) hy) (ih' z (by simp) hz)
  · obtain ⟨_, y, rfl, hy⟩ := (isx23 (by decide)).1 hx
    exact xw_not t n y (opd_of hy) (ih' y (by simp) hy)
  · obtain ⟨_, y, rfl, hy⟩ := (isx23 (by decide)).1 hx
    exact xw_neg t n y (opd_of hy) (ih' y (by simp) hy)
  · obtain ⟨_, y, rfl, hy⟩ := (isx23 (by decide)).1 hx
    exact xw_len t n y (opd_of hy) (ih' y (by simp) hy)
  · obtain ⟨_, y, z, rfl, hy, hz⟩ := (isx20 (by decide)).1 hx
    exact xw_next t n y z (ih' y (by simp) hy) (ih' z (by simp) hz)
set_option maxRecDepth 20000 in
set_option maxHeartbeats 1000000 in
theorem wgiven_of (y : Nd) (hx : Puts 125 y (bsN y)) : Puts 124 y (bsN y ++ [S.sc]) := by
  intro m D b cap w0 B ts W hF hN hT hlen
  simp only [List.length_append, List.length_cons, List.length_nil] at hlen
  have hb0 := ext_alloc (Below.refl W.heap.size W) (nbx y b cap)
  have hT0 := hT.on hb0
  have hX0 := bx_new hT y b cap
  obtain ⟨U, hU⟩ : ∃ U, W.alloc (nbx y b cap) = U := ⟨_, rfl⟩
  rw [hU] at hT0 hX0 hb0
  replace hU : W.alloc (.cells #[.int .i64 y.k, sk y.t, .int .i64 y.n, .slice b y.kids.length cap] 24) = U := hU
  obtain ⟨c0, c1, c2, c3, f0, f1, f2, f3⟩ := in4 hX0.g
  have h1 := hx m D b cap w0 B ts U hF hN hT0 (by omega)
  clear hx
  go_enter Tryz.func124, Tryz.ntmps124
  go_wp2_with (first | (go_at_call 77; refine (q1.t.put1 [59] (by simp; omega)).mono ?_; rintro e w2 q2; have e2 := q2.e; subst e2) | (go_at_call 125; refine h1.mono ?_; rintro e w1 q1; have e1 := q1.e; subst e1))
  go_end0
  simpa using (q1.then q2).of hT hb0
set_option maxRecDepth 20000 in
set_option maxHeartbeats 1000000 in
theorem wbody_of (y : Nd) (hx : Puts 78 y (bsN y)) : Puts 127 y ([W.do_] ++ (bsN y ++ [W.end_])) := by
  intro m D b cap w0 B ts V hF hN hT hlen
  simp only [List.length_append, List.length_cons, List.length_nil] at hlen
  have hb0 := ext_alloc (Below.refl V.heap.size V) (nbx y b cap)
  have hT0 := hT.on hb0
  have hX0 := bx_new hT y b cap
  obtain ⟨U, hU⟩ : ∃ U, V.alloc (nbx y b cap) = U := ⟨_, rfl⟩
  rw [hU] at hT0 hX0 hb0
  replace hU : V.alloc (.cells #[.int .i64 y.k, sk y.t, .int .i64 y.n, .slice b y.kids.length cap] 24) = U := hU
  obtain ⟨c0, c1, c2, c3, f0, f1, f2, f3⟩ := in4 hX0.g
  have h1 := fun u (h : Wt w0 B m (ts ++ [[100, 111]]) u) => hx m D b cap w0 B (ts ++ [[100, 111]]) u hF hN h (by simp; omega)
  clear hx
  go_enter Tryz.func127, Tryz.ntmps127
  go_wp2_with (first | (go_at_call 77; refine (q2.t.put1 [101, 110, 100] (by simp; omega)).mono ?_; rintro e w3 q3; have e3 := q3.e; subst e3) | (go_at_call 78; refine (h1 _ q1.t).mono ?_; rintro e w2 q2; have e2 := q2.e; subst e2) | (go_at_call 77; refine (hT0.put1 [100, 111] (by omega)).mono ?_; rintro e w1 q1; have e1 := q1.e; subst e1; have hX1 := hX0.on q1; obtain ⟨c0, c1, c2, c3, f0, f1, f2, f3⟩ := in4 hX1.g))
  go_end0
  simpa using ((q1.then q2).then q3).of hT hb0
end Go.Proofs.YtbdkiimggggndaaGreatDoor
