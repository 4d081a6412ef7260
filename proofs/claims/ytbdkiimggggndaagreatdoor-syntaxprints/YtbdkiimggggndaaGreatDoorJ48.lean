/- The document's Show: functions. -/
import Derived.Test.YtbdkiimggggndaaGreatDoorJ37
import Derived.Deep.RegionHeld3
namespace Go.Proofs.YtbdkiimggggndaaGreatDoor
open Go.RowKit
open Go

set_option maxRecDepth 20000 in
set_option maxHeartbeats 4000000 in
theorem show_2 (t : List UInt8) (o : Int) (ps : List Nd) (z : Nd) (lt : t.length ≤ 1000000000000) (hl : ∀ y ∈ ps, ShowC y) (tl : ∀ y ∈ ps, (textN y).length ≤ 10000000) (nl : ∀ y ∈ ps, showT y ≠ []) (hll : ps.length ≤ 90000) (hz : ∀ (S : Nat → Prop) (b' : Option Addr) (c' : Nat) (u : World), NdV S u z (ndv z b' c') → Calls Tryz.prog 54 #[ndv z b' c'] u fun e w' => e = .returned (sk (linesN z)) ∧ Below u.heap.size u w') (lz : (textN z).length ≤ 10000000) (kz : z.k = 4) (sz : ∀ q ∈ z.kids, showT q ≠ []) : ShowC ⟨2, t, o, ps ++ [z]⟩ := by
  intro S b cap w hN
  rw [text_fun t o nl kz sz]
  obtain ⟨ks, hks⟩ : ∃ l, ps ++ [z] = l := ⟨_, rfl⟩
  rw [hks] at hN ⊢
  obtain ⟨L, hL⟩ : ∃ L, ps.length = L := ⟨_, rfl⟩
  have hL1 : ks.length = L + 1 := by rw [← hks]; simp [hL]
  have hk := KA.of hN
  have hcap : L + 1 ≤ cap := by rw [← hL1]; exact hk.1
  have hkp : ∀ u, Below w.heap.size w u → KA S u b cap ps := fun u hb => by
    have := KA.take (KA.of (hN.below hb)) L
    rw [← hks, List.take_left' hL] at this
    exact this
  obtain ⟨g, off, zb, zc, rfl, z0, z1, z2, z3, zV⟩ := KA.at hk (j := L) (y := z) (by rw [← hks, List.getElem?_append_right (by omega)]; simp [hL])
  have hbw := ext_alloc (Below.refl w.heap.size w) (nbx ⟨2, t, o, ks⟩ (some ⟨g, off, none⟩) cap)
  have g0 := alloc_new w (nbx ⟨2, t, o, ks⟩ (some ⟨g, off, none⟩) cap)
  have qz := fun u (hb : Below w.heap.size w u) => hz S zb zc u (zV.below hb)
  have mz := lines_lenN lz
  have ml := round_lenN tl (by omega)
  have ql := fun u (hb : Below w.heap.size w u) => round_of ps hl tl (by omega) S (some ⟨g, off, none⟩) cap u (hkp u hb)
  rw [hL] at ql
  obtain ⟨U, hU⟩ : ∃ U, w.alloc (nbx ⟨2, t, o, ks⟩ (some ⟨g, off, none⟩) cap) = U := ⟨_, rfl⟩
  rw [hU] at hbw g0
  replace hU : w.alloc (.cells #[.int .i64 2, sk t, .int .i64 o, .slice (some ⟨g, off, none⟩) ks.length cap] 24) = U := hU
  replace g0 : U.heap[w.heap.size]? = some (.cells #[.int .i64 2, sk t, .int .i64 o, .slice (some ⟨g, off, none⟩) ks.length cap] 24) := g0
  show Calls Tryz.prog 23 #[.agg #[.int .i64 2, sk t, .int .i64 o, .slice (some ⟨g, off, none⟩) ks.length cap]] w _
  rw [hL1] at hU g0 ⊢
  obtain ⟨q0, q1, q2, q3, _, _, _, _⟩ := in4 g0
  obtain ⟨Tz, ez⟩ : ∃ T, linesN z = T := ⟨_, rfl⟩
  simp only [ez] at qz mz ⊢
  obtain ⟨Tl, el⟩ : ∃ T, roundN ps = T := ⟨_, rfl⟩
  simp only [el] at ql ml ⊢
  replace z0 := cellB hbw z0
  replace z1 := cellB hbw z1
  replace z2 := cellB hbw z2
  replace z3 := cellB hbw z3
  have hLe : ((L + 1 : Nat) : Int) - 1 = (L : Int) := by omega
  have hi1 : (0 : Int) ≤ (L : Int) := by omega
  have hi2 : (L : Int) ≤ (cap : Int) := by omega
  have hi3 : (L : Int) < (L : Int) + 1 := by omega
  have hLb : L ≤ 90000 := by omega
  obtain ⟨A1, hadd1, d1, s1⟩ := add_ex ⟨#[102, 117, 110, 99, 116, 105, 111, 110, 32]⟩ ⟨t.toArray⟩ 9 1000000000000 (by decide) (by show t.toArray.size ≤ _; simpa using lt) (by decide)
  replace d1 : Hid _ := d1
  obtain ⟨A2, hadd2, d2, s2⟩ := add_ex A1 ⟨#[32]⟩ 1000000000009 1 s1 (by decide) (by decide)
  replace d2 : Hid _ := d2
  obtain ⟨A3, hadd3, d3, s3⟩ := add_ex A2 ⟨Tl.toArray⟩ 1000000000010 1000000300004 s2 (by show Tl.toArray.size ≤ _; simpa using ml) (by decide)
  replace d3 : Hid _ := d3
  obtain ⟨A4, hadd4, d4, s4⟩ := add_ex A3 ⟨#[32]⟩ 2000000300014 1 s3 (by decide) (by decide)
  replace d4 : Hid _ := d4
  obtain ⟨A5, hadd5, d5, s5⟩ := add_ex A4 ⟨Tz.toArray⟩ 2000000300015 10000001 s4 (by show Tz.toArray.size ≤ _; simpa using mz) (by decide)
  replace d5 : Hid _ := d5
  obtain ⟨A6, hadd6, d6, s6⟩ := add_ex A5 ⟨#[101, 110, 100]⟩ 2000010300016 3 s5 (by decide) (by decide)
  replace d6 : Hid _ := d6
  clear hk hkp hN hz zV ez lz kz sz hl tl nl hL hL1 el hll hks
  go_enter Tryz.func23, Tryz.ntmps23
  go_wp2
  go_region_held3 (fun u => u.cell? ⟨w.heap.size, 1, none⟩ = some (sk t) ∧ u.cell? ⟨w.heap.size, 3, none⟩ = some (.slice (some ⟨g, off, none⟩) (L + 1) cap) ∧ u.cell? ⟨g, off + L * 4, none⟩ = some (.int .i64 z.k) ∧ u.cell? ⟨g, off + L * 4 + 1, none⟩ = some (sk z.t) ∧ u.cell? ⟨g, off + L * 4 + 2, none⟩ = some (.int .i64 z.n) ∧ u.cell? ⟨g, off + L * 4 + 3, none⟩ = some (.slice zb z.kids.length zc)) (go_keep) (first | (go_at_call 53; refine (ql _ hbw.drew).mono ?_; rintro e u0 ⟨rfl, hu0⟩; replace g0 := block_below hu0 (show (U.drew).heap[w.heap.size]? = _ from g0); obtain ⟨q0, q1, q2, q3, _, _, _, _⟩ := in4 g0; replace hbw := ext_trans hbw.drew hu0; replace z0 := cellB hu0 (show (U.drew).cell? _ = _ from z0); replace z1 := cellB hu0 (show (U.drew).cell? _ = _ from z1); replace z2 := cellB hu0 (show (U.drew).cell? _ = _ from z2); replace z3 := cellB hu0 (show (U.drew).cell? _ = _ from z3)) | (go_at_call 54; refine (qz _ hbw).mono ?_; rintro e u1 ⟨rfl, hu1⟩; replace g0 := block_below hu1 (show (u0).heap[w.heap.size]? = _ from g0); obtain ⟨q0, q1, q2, q3, _, _, _, _⟩ := in4 g0; replace hbw := ext_trans hbw hu1; replace z0 := cellB hu1 (show (u0).cell? _ = _ from z0); replace z1 := cellB hu1 (show (u0).cell? _ = _ from z1); replace z2 := cellB hu1 (show (u0).cell? _ = _ from z2); replace z3 := cellB hu1 (show (u0).cell? _ = _ from z3)))
  go_wp2
  go_ret
  exact ⟨ret_sk (by first | (rw [d6.out, d5.out, d4.out, d3.out, d2.out, d1.out]; done) | (rw [d6.out, d5.out, d4.out, d3.out, d2.out, d1.out]; rfl) | (rw [d6.out, d5.out, d4.out, d3.out, d2.out, d1.out]; simp; done) | (rw [d6.out, d5.out, d4.out, d3.out, d2.out, d1.out]; simp; rfl)), hbw⟩
end Go.Proofs.YtbdkiimggggndaaGreatDoor
