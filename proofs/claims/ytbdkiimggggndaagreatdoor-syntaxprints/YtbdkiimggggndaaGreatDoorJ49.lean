/- The document's Show: calls. -/
import Derived.Test.YtbdkiimggggndaaGreatDoorJ37
import Derived.Deep.RegionHeld3
namespace Go.Proofs.YtbdkiimggggndaaGreatDoor
open Go.RowKit
open Go

set_option maxRecDepth 20000 in
set_option maxHeartbeats 4000000 in
theorem show_21 (t : List UInt8) (o : Int) (y : Nd) (l : List Nd) (hy : ShowC y) (ly : (textN y).length ≤ 10000000) (ny : showT y ≠ []) (oy : y.k = 22 → (opOf y.n).isSome = true) (hl : ∀ z ∈ l, ShowC z) (tl : ∀ z ∈ l, (textN z).length ≤ 10000000) (nl : ∀ z ∈ l, showT z ≠ []) (hll : l.length ≤ 90000) : ShowC ⟨21, t, o, y :: l⟩ := by
  intro S b cap w hN
  have hk := KA.of hN
  obtain ⟨g, off, yb, yc, rfl, y0, y1, y2, y3, yV⟩ := KA.at hk (j := 0) (y := y) rfl
  simp only [Nat.zero_mul, Nat.add_zero] at y0 y1 y2 y3
  obtain ⟨L, hL⟩ : ∃ L, l.length = L := ⟨_, rfl⟩
  have hL1 : (y :: l).length = L + 1 := by simp [hL]
  have hcap : L + 1 ≤ cap := by rw [← hL1]; exact hk.1
  have hbw := ext_alloc (Below.refl w.heap.size w) (nbx ⟨21, t, o, y :: l⟩ (some ⟨g, off, none⟩) cap)
  have g0 := alloc_new w (nbx ⟨21, t, o, y :: l⟩ (some ⟨g, off, none⟩) cap)
  have qy := fun u (hb : Below w.heap.size w u) => at_of y oy hy ly 7 S yb yc u (yV.below hb)
  have my := at_lenN ly 7
  have ml := round_lenN tl (by omega)
  rw [text_call t o ny nl]
  obtain ⟨U, hU⟩ : ∃ U, w.alloc (nbx ⟨21, t, o, y :: l⟩ (some ⟨g, off, none⟩) cap) = U := ⟨_, rfl⟩
  rw [hU] at hbw g0
  replace hU : w.alloc (.cells #[.int .i64 21, sk t, .int .i64 o, .slice (some ⟨g, off, none⟩) (y :: l).length cap] 24) = U := hU
  replace g0 : U.heap[w.heap.size]? = some (.cells #[.int .i64 21, sk t, .int .i64 o, .slice (some ⟨g, off, none⟩) (y :: l).length cap] 24) := g0
  show Calls Tryz.prog 23 #[.agg #[.int .i64 21, sk t, .int .i64 o, .slice (some ⟨g, off, none⟩) (y :: l).length cap]] w _
  rw [hL1] at hU g0 ⊢
  obtain ⟨q0, q1, q2, q3, _, _, _, _⟩ := in4 g0
  obtain ⟨Ty, ey⟩ : ∃ T, atN 7 y = T := ⟨_, rfl⟩
  simp only [ey] at qy my ⊢
  replace y0 := cellB hbw y0
  replace y1 := cellB hbw y1
  replace y2 := cellB hbw y2
  replace y3 := cellB hbw y3
  have hcapI : ((L : Int) + 1) ≤ (cap : Int) := by omega
  have hi0 : (1 : Int) ≤ (L : Int) + 1 := by omega
  have hLb : L ≤ 90000 := by omega
  by_cases hc : cap = 1
  · subst hc
    obtain rfl : L = 0 := by omega
    have hl0 : l = [] := List.length_eq_zero_iff.1 hL
    have ql := fun u (hb : Below w.heap.size w u) => round_of l hl tl (by omega) S (some ⟨g, off, none⟩) 0 u ⟨by rw [hl0]; simp, .inl hl0⟩
    rw [hL] at ql
    obtain ⟨Tl, el⟩ : ∃ T, roundN l = T := ⟨_, rfl⟩
    simp only [el] at ql ml ⊢
    obtain ⟨A1, hadd1, d1, s1⟩ := add_ex ⟨Ty.toArray⟩ ⟨#[32]⟩ 10000004 1 (by show Ty.toArray.size ≤ _; simpa using my) (by decide) (by decide)
    replace d1 : Hid _ := d1
    obtain ⟨A2, hadd2, d2, s2⟩ := add_ex A1 ⟨Tl.toArray⟩ 10000005 1000000300004 s1 (by show Tl.toArray.size ≤ _; simpa using ml) (by decide)
    replace d2 : Hid _ := d2
    clear hk hN hy yV ey ly ny oy hl tl nl hL hL1 hl0 el hll
    go_enter Tryz.func23, Tryz.ntmps23
    go_wp2
    go_region_held3 (fun u => u.cell? ⟨w.heap.size, 3, none⟩ = some (.slice (some ⟨g, off, none⟩) 1 1) ∧ u.cell? ⟨g, off, none⟩ = some (.int .i64 y.k) ∧ u.cell? ⟨g, off + 1, none⟩ = some (sk y.t) ∧ u.cell? ⟨g, off + 2, none⟩ = some (.int .i64 y.n) ∧ u.cell? ⟨g, off + 3, none⟩ = some (.slice yb y.kids.length yc)) (go_keep) (first | (go_at_call 56; refine (qy _ hbw.drew).mono ?_; rintro e u0 ⟨rfl, hu0⟩; replace g0 := block_below hu0 (show (U.drew).heap[w.heap.size]? = _ from g0); obtain ⟨q0, q1, q2, q3, _, _, _, _⟩ := in4 g0; replace hbw := ext_trans hbw.drew hu0; replace y0 := cellB hu0 (show (U.drew).cell? _ = _ from y0); replace y1 := cellB hu0 (show (U.drew).cell? _ = _ from y1); replace y2 := cellB hu0 (show (U.drew).cell? _ = _ from y2); replace y3 := cellB hu0 (show (U.drew).cell? _ = _ from y3)) | (go_at_call 53; refine (ql _ hbw).mono ?_; rintro e u1 ⟨rfl, hu1⟩; replace g0 := block_below hu1 (show (u0).heap[w.heap.size]? = _ from g0); obtain ⟨q0, q1, q2, q3, _, _, _, _⟩ := in4 g0; replace hbw := ext_trans hbw hu1; replace y0 := cellB hu1 (show (u0).cell? _ = _ from y0); replace y1 := cellB hu1 (show (u0).cell? _ = _ from y1); replace y2 := cellB hu1 (show (u0).cell? _ = _ from y2); replace y3 := cellB hu1 (show (u0).cell? _ = _ from y3)))
    go_wp2
    go_ret
    exact ⟨ret_sk (by first | (rw [d2.out, d1.out]; done) | (rw [d2.out, d1.out]; rfl) | (rw [d2.out, d1.out]; simp; done) | (rw [d2.out, d1.out]; simp; rfl)), hbw⟩
  · have hc1 : 1 < cap := by omega
    have hc2 : ¬ cap - 1 = 0 := by omega
    have hKd : ∀ u, Below w.heap.size w u → KA S u (some ⟨g, off + 4, none⟩) (cap - 1) l := fun u hb => by
      by_cases h0 : l = []
      · subst h0; exact ⟨by simp, .inl rfl⟩
      · have := KA.drop (KA.of (hN.below hb)) 1 (by simp; exact List.length_pos_iff.2 h0)
        simpa using this
    have ql := fun u (hb : Below w.heap.size w u) => round_of l hl tl (by omega) S (some ⟨g, off + 4, none⟩) (cap - 1) u (hKd u hb)
    rw [hL] at ql
    obtain ⟨Tl, el⟩ : ∃ T, roundN l = T := ⟨_, rfl⟩
    simp only [el] at ql ml ⊢
    obtain ⟨A1, hadd1, d1, s1⟩ := add_ex ⟨Ty.toArray⟩ ⟨#[32]⟩ 10000004 1 (by show Ty.toArray.size ≤ _; simpa using my) (by decide) (by decide)
    replace d1 : Hid _ := d1
    obtain ⟨A2, hadd2, d2, s2⟩ := add_ex A1 ⟨Tl.toArray⟩ 10000005 1000000300004 s1 (by show Tl.toArray.size ≤ _; simpa using ml) (by decide)
    replace d2 : Hid _ := d2
    clear hk hKd hN hy yV ey ly ny oy hl tl nl hL hL1 el hll
    go_enter Tryz.func23, Tryz.ntmps23
    go_wp2
    go_region_held3 (fun u => u.cell? ⟨w.heap.size, 3, none⟩ = some (.slice (some ⟨g, off, none⟩) (L + 1) cap) ∧ u.cell? ⟨g, off, none⟩ = some (.int .i64 y.k) ∧ u.cell? ⟨g, off + 1, none⟩ = some (sk y.t) ∧ u.cell? ⟨g, off + 2, none⟩ = some (.int .i64 y.n) ∧ u.cell? ⟨g, off + 3, none⟩ = some (.slice yb y.kids.length yc)) (go_keep) (first | (go_at_call 56; refine (qy _ hbw.drew).mono ?_; rintro e u0 ⟨rfl, hu0⟩; replace g0 := block_below hu0 (show (U.drew).heap[w.heap.size]? = _ from g0); obtain ⟨q0, q1, q2, q3, _, _, _, _⟩ := in4 g0; replace hbw := ext_trans hbw.drew hu0; replace y0 := cellB hu0 (show (U.drew).cell? _ = _ from y0); replace y1 := cellB hu0 (show (U.drew).cell? _ = _ from y1); replace y2 := cellB hu0 (show (U.drew).cell? _ = _ from y2); replace y3 := cellB hu0 (show (U.drew).cell? _ = _ from y3)) | (go_at_call 53; refine (ql _ hbw).mono ?_; rintro e u1 ⟨rfl, hu1⟩; replace g0 := block_below hu1 (show (u0).heap[w.heap.size]? = _ from g0); obtain ⟨q0, q1, q2, q3, _, _, _, _⟩ := in4 g0; replace hbw := ext_trans hbw hu1; replace y0 := cellB hu1 (show (u0).cell? _ = _ from y0); replace y1 := cellB hu1 (show (u0).cell? _ = _ from y1); replace y2 := cellB hu1 (show (u0).cell? _ = _ from y2); replace y3 := cellB hu1 (show (u0).cell? _ = _ from y3)))
    go_wp2
    go_ret
    exact ⟨ret_sk (by first | (rw [d2.out, d1.out]; done) | (rw [d2.out, d1.out]; rfl) | (rw [d2.out, d1.out]; simp; done) | (rw [d2.out, d1.out]; simp; rfl)), hbw⟩
end Go.Proofs.YtbdkiimggggndaaGreatDoor
