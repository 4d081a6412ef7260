/- The document's Is. -/
import Derived.Test.YtbdkiimggggndaaGreatDoorJ25
namespace Go.Proofs.YtbdkiimggggndaaGreatDoor
open Go.RowKit
open Go

set_option maxRecDepth 20000 in
set_option maxHeartbeats 2000000 in
theorem is_namM_name (k : Int) (t : List UInt8) (o : Int) (ks : List Nd) (b : Option Addr) (cap : Nat) (w : World) (l m : Int) (hC : CntC k l m true true) (_k14 : (k == 14) = false) (_k22 : (k == 22) = false) (_k13 : (k == 13) = false) (_k6 : (k == 6) = false) (_k7 : (k == 7) = false) (_h1 : decide ((ks.length : Int) < l) = false) (_h2 : decide (0 ≤ m) = false) (qN : ∀ u : World, Calls Tryz.prog 47 #[sk t] u fun e w' => e = .returned (.bool false) ∧ Below u.heap.size u w') : IsR ⟨k, t, o, ks⟩ b cap w false := by
  have g0 := alloc_new w (nbx ⟨k, t, o, ks⟩ b cap)
  have hbw := ext_alloc (Below.refl w.heap.size w) (nbx ⟨k, t, o, ks⟩ b cap)
  dsimp only [nbx] at g0 hbw
  have n14 : (k != 14) = true := by rw [bne, _k14]; rfl
  have n13 : (k != 13) = true := by rw [bne, _k13]; rfl
  go_enter Tryz.func22, Tryz.ntmps22
  go_wp2_with (first | (go_at_call 46; refine (hC _).mono ?_; rintro e w0 ⟨rfl, hw0⟩; subst hw0) | (go_at_call 47; refine (qN _).mono ?_; rintro e u1 ⟨rfl, hu1⟩; replace g0 := block_below hu1 g0; obtain ⟨c0, c1, c2, c3, f0, f1, f2, f3⟩ := in4 g0; replace hbw := ext_trans hbw hu1))
  go_ret
  exact ⟨rfl, hbw⟩
set_option maxRecDepth 20000 in
set_option maxHeartbeats 2000000 in
theorem is_namM_zero (k : Int) (t : List UInt8) (o : Int) (ks : List Nd) (b : Option Addr) (cap : Nat) (w : World) (l m : Int) (hC : CntC k l m true true) (_k14 : (k == 14) = false) (_k22 : (k == 22) = false) (_k13 : (k == 13) = false) (_k6 : (k == 6) = false) (_k7 : (k == 7) = false) (_h1 : decide ((ks.length : Int) < l) = false) (_h2 : decide (0 ≤ m) = false) (qN : ∀ u : World, Calls Tryz.prog 47 #[sk t] u fun e w' => e = .returned (.bool true) ∧ Below u.heap.size u w') (_t2 : (o == 0) = false) : IsR ⟨k, t, o, ks⟩ b cap w false := by
  have g0 := alloc_new w (nbx ⟨k, t, o, ks⟩ b cap)
  have hbw := ext_alloc (Below.refl w.heap.size w) (nbx ⟨k, t, o, ks⟩ b cap)
  dsimp only [nbx] at g0 hbw
  have n14 : (k != 14) = true := by rw [bne, _k14]; rfl
  have n13 : (k != 13) = true := by rw [bne, _k13]; rfl
  have n0 : (o != 0) = true := by rw [bne, _t2]; rfl
  go_enter Tryz.func22, Tryz.ntmps22
  go_wp2_with (first | (go_at_call 46; refine (hC _).mono ?_; rintro e w0 ⟨rfl, hw0⟩; subst hw0) | (go_at_call 47; refine (qN _).mono ?_; rintro e u1 ⟨rfl, hu1⟩; replace g0 := block_below hu1 g0; obtain ⟨c0, c1, c2, c3, f0, f1, f2, f3⟩ := in4 g0; replace hbw := ext_trans hbw hu1))
  go_ret
  exact ⟨rfl, hbw⟩
set_option maxRecDepth 20000 in
set_option maxHeartbeats 4000000 in
theorem is_namM_loop (k : Int) (t : List UInt8) (ks : List Nd) (b : Option Addr) (cap : Nat) (S : Nat → Prop) (w : World) (l m : Int) (hC : CntC k l m true true) (_k14 : (k == 14) = false) (_k22 : (k == 22) = false) (_k13 : (k == 13) = false) (_k6 : (k == 6) = false) (_k7 : (k == 7) = false) (_h1 : decide ((ks.length : Int) < l) = false) (_h2 : decide (0 ≤ m) = false) (qN : ∀ u : World, Calls Tryz.prog 47 #[sk t] u fun e w' => e = .returned (.bool true) ∧ Below u.heap.size u w')
    (hkids : ks = [] ∨ ∃ g off, b = some ⟨g, off, none⟩ ∧ S g ∧ ∀ j y, ks[j]? = some y → NdAt S w y (fun i => w.cell? ⟨g, off + j * 4 + i, none⟩)) (ihk : ∀ y ∈ ks, IsC y) (hok : ∀ y ∈ ks, okN y) (hlen : ks.length ≤ 9000000000000000000)
    (ans : Bool) (hyes : (∀ j y, ks[j]? = some y → (fitsKB k ks.length j y.k && isD y) = true) → ans = true) (hno : ∀ j y, ks[j]? = some y → (fitsKB k ks.length j y.k && isD y) = false → ans = false) : IsR ⟨k, t, 0, ks⟩ b cap w ans := by
  have g0 := alloc_new w (nbx ⟨k, t, 0, ks⟩ b cap)
  have hbw := ext_alloc (Below.refl w.heap.size w) (nbx ⟨k, t, 0, ks⟩ b cap)
  dsimp only [nbx] at g0 hbw
  have n14 : (k != 14) = true := by rw [bne, _k14]; rfl
  have n13 : (k != 13) = true := by rw [bne, _k13]; rfl
  have hFt := fun (i : Nat) (kk : Int) (u : World) (hi : i < ks.length) => fitsk_any ⟨k, t, 0, ks⟩ b cap i kk u hi hlen
  dsimp only [FitsC, ndv] at hFt
  dsimp only [IsR, ndv]
  replace hFt : Hid _ := hFt
  replace hyes : Hid _ := hyes
  replace hno : Hid _ := hno
  replace hkids : Hid _ := hkids
  replace ihk : Hid _ := ihk
  replace hok : Hid _ := hok
  obtain ⟨L, hL⟩ : ∃ L, ks.length = L := ⟨_, rfl⟩
  rw [hL] at hlen g0 hbw _h1 ⊢
  replace hL : Hid _ := hL
  go_enter Tryz.func22, Tryz.ntmps22
  go_wp2_with (first | (go_at_call 46; refine (hC _).mono ?_; rintro e w0 ⟨rfl, hw0⟩; subst hw0) | (go_at_call 47; refine (qN _).mono ?_; rintro e u1 ⟨rfl, hu1⟩; replace g0 := block_below hu1 g0; obtain ⟨c0, c1, c2, c3, f0, f1, f2, f3⟩ := in4 g0; replace hbw := ext_trans hbw hu1))
  go_loopw [9] (fun ix wr => ∃ j : Nat, j ≤ L ∧ ix = .int .i64 (j : Nat) ∧ Hid (∀ i y, i < j → ks[i]? = some y → (fitsKB k ks.length i y.k && isD y) = true) ∧ Below w.heap.size w wr ∧ wr.heap[w.heap.size]? = some (.cells #[.int .i64 k, sk t, .int .i64 0, .slice b L cap] 24)) (fun ix _ => L - (intOf ix).toNat)
  case atStart => exact ⟨0, by omega, rfl, fun i y h => by omega, hbw, g0⟩
  case round =>
    clear g0 hbw
    obtain ⟨j, hj, rfl, hG, hbw, gw⟩ := hrel
    obtain ⟨q0, q1, q2, q3, _, _, _, _⟩ := in4 gw
    by_cases hlt : j < L
    · have hlt' : (j : Int) < (L : Int) := by omega
      obtain ⟨y, hy⟩ : ∃ y, ks[j]? = some y := ⟨_, List.getElem?_eq_getElem (show j < ks.length by have := hL.out; omega)⟩
      rcases hkids.out with h | ⟨g, off, rfl, hSg, hkd⟩
      · rw [h] at hy
        simp at hy
      obtain ⟨yb, yc, v0, v1, v2, v3, hyV⟩ := ndAt_val (hkd j y hy)
      have c0 : wr.cell? ⟨g, off + j * 4, none⟩ = some (.int .i64 y.k) := cellB hbw v0
      have c1 := cellB hbw v1
      have c2 := cellB hbw v2
      have c3 := cellB hbw v3
      have hcall := fun u (hb : Below w.heap.size w u) => ihk.out y (List.mem_of_getElem? hy) S yb yc u (hok.out y (List.mem_of_getElem? hy)) (hyV.below hb)
      have hF := fun u => hFt.out j y.k u (by have := hL.out; omega)
      rw [hL.out] at hF
      have hbad : (fitsKB k L j y.k && isD y) = false → Hid (ans = false) := fun h => hno.out j y hy (by rw [hL.out]; exact h)
      have hnext : (fitsKB k L j y.k && isD y) = true → Hid (∀ i y, i < j + 1 → ks[i]? = some y → (fitsKB k ks.length i y.k && isD y) = true) := fun h i z hi hz => by
        by_cases e : i = j
        · subst e; rw [hy] at hz; cases hz; rw [hL.out]; exact h
        · exact hG.out i z (by omega) hz
      replace hbad : Hid _ := hbad
      replace hnext : Hid _ := hnext
      clear hkd hSg v0 v1 v2 v3 hyV hy hG hFt
      cases e1 : fitsKB k L j y.k
      · rw [e1] at hF
        have hA := (hbad.out (by rw [e1]; rfl)).out
        subst hA
        replace e1 : Hid _ := e1
        clear hcall
        go_wp2
        refine wp_region_any (by kernel_rfl) ?_
        change wpAny _ _ _ _ _ _ _ (World.drew _)
        refine wpAny_take (i := 1) (v := .int .i64 (j : Nat)) rfl (by kernel_rfl) (by kernel_rfl) (by kernel_rfl) (fun _ _ _ h => h) (Or.inl ⟨by kernel_rfl, fun w => by kernel_rfl⟩) ?_
        refine wpAny_take (i := 2) (v := .pointer (some ⟨w.heap.size, 3, none⟩)) rfl (by kernel_rfl) (by kernel_rfl) (by kernel_rfl) (fun _ _ _ h => h) (Or.inl ⟨by kernel_rfl, fun w => by kernel_rfl⟩) ?_
        refine wpAny_take (i := 4) (v := .int .i64 (j : Nat)) rfl (by kernel_rfl) (by kernel_rfl) (by kernel_rfl) (fun _ _ _ h => h) (Or.inl ⟨by kernel_rfl, fun w => by kernel_rfl⟩) ?_
        refine wpAny_ready (rs := [0, 3]) (by kernel_rfl) (by simp) ?_
        refine AllReady.cons rfl (fun K hK => ?_) (AllReady.cons rfl (fun K hK => ?_) AllReady.nil)
        · go_simp
          refine hK _ _ ?_
          clear hK K
          refine wpAny_ready (rs := [3]) (by kernel_rfl) (by simp) ?_
          refine AllReady.cons rfl (fun K hK => ?_) AllReady.nil
          go_simp
          refine hK _ _ ?_
          clear hK K
          refine wpAny_take (i := 5) (v := ?_) rfl (by kernel_rfl) (by kernel_rfl) (by kernel_rfl) (fun _ _ _ h => h) (Or.inl ⟨by rfl, ?_⟩) ?_
          rotate_left
          · intro w; go_simp; try with_reducible rfl
          refine wpAny_take (i := 6) (v := ?_) rfl (by kernel_rfl) (by kernel_rfl) (by kernel_rfl) (fun _ _ _ h => h) (Or.inl ⟨by rfl, ?_⟩) ?_
          rotate_left
          · intro w; go_simp; try with_reducible rfl
          refine wpAny_ready (rs := [7]) (by kernel_rfl) (by simp) ?_
          refine AllReady.cons rfl (fun K hK => ?_) AllReady.nil
          go_simp
          refine hK _ _ ?_
          clear hK K
          refine wpAny_ready (rs := [8]) (by kernel_rfl) (by simp) ?_
          refine AllReady.cons rfl (fun K hK => ?_) AllReady.nil
          go_simp
          go_wp2_with (go_at_call 51; refine (hF _).mono ?_; rintro e w1 ⟨rfl, hb1⟩)
          try (refine hK _ _ ?_; clear hK K)
          refine wpAny_take (i := 9) (v := .bool true) rfl (by kernel_rfl) (by kernel_rfl) (by kernel_rfl) (fun _ _ _ h => h) (Or.inl ⟨by kernel_rfl, fun w => by kernel_rfl⟩) ?_
          refine wpAny_take (i := 10) (v := .bool true) rfl (by kernel_rfl) (by kernel_rfl) (by kernel_rfl) (fun _ _ _ h => h) (Or.inl ⟨by kernel_rfl, fun w => by kernel_rfl⟩) ?_
          refine wpAny_take (i := 11) (v := undef) rfl (by kernel_rfl) (by kernel_rfl) (by kernel_rfl) (fun _ _ _ h => h) (Or.inr ⟨by kernel_rfl, rfl⟩) ?_
          refine wpAny_take (i := 12) (v := undef) rfl (by kernel_rfl) (by kernel_rfl) (by kernel_rfl) (fun _ _ _ h => h) (Or.inr ⟨by kernel_rfl, rfl⟩) ?_
          refine wpAny_take (i := 13) (v := undef) rfl (by kernel_rfl) (by kernel_rfl) (by kernel_rfl) (fun _ _ _ h => h) (Or.inr ⟨by kernel_rfl, rfl⟩) ?_
          refine wpAny_take (i := 14) (v := undef) rfl (by kernel_rfl) (by kernel_rfl) (by kernel_rfl) (fun _ _ _ h => h) (Or.inr ⟨by kernel_rfl, rfl⟩) ?_
          refine wpAny_take (i := 15) (v := undef) rfl (by kernel_rfl) (by kernel_rfl) (by kernel_rfl) (fun _ _ _ h => h) (Or.inr ⟨by kernel_rfl, rfl⟩) ?_
          refine wpAny_take (i := 16) (v := undef) rfl (by kernel_rfl) (by kernel_rfl) (by kernel_rfl) (fun _ _ _ h => h) (Or.inr ⟨by kernel_rfl, rfl⟩) ?_
          refine wpAny_take (i := 17) (v := undef) rfl (by kernel_rfl) (by kernel_rfl) (by kernel_rfl) (fun _ _ _ h => h) (Or.inr ⟨by kernel_rfl, rfl⟩) ?_
          refine wpAny_take (i := 18) (v := .bool true) rfl (by kernel_rfl) (by kernel_rfl) (by kernel_rfl) (fun _ _ _ h => h) (Or.inl ⟨by kernel_rfl, fun w => by kernel_rfl⟩) ?_
          refine wpAny_done (by kernel_rfl) ?_ _
          refine fr156 (Q := Exit.then _ _ .normal) (by kernel_rfl) (by kernel_rfl) (by kernel_rfl) ?_
          intro fr h156 hsz hd
          go_wp2
          refine tail22 h156 ?_
          exact (bodyPost_ret (R := fun e w' => e = .returned (.bool false) ∧ Below w.heap.size w w') (res22 hsz) (def22 hd) ⟨rfl, ext_trans hbw.drew hb1⟩ : bodyPost Tryz.prog Tryz.f22 _ .ret _ _)
        · go_simp
          refine hK _ _ ?_
          clear hK K
          refine wpAny_take (i := 5) (v := ?_) rfl (by kernel_rfl) (by kernel_rfl) (by kernel_rfl) (fun _ _ _ h => h) (Or.inl ⟨by rfl, ?_⟩) ?_
          rotate_left
          · intro w; go_simp; try with_reducible rfl
          refine wpAny_take (i := 6) (v := ?_) rfl (by kernel_rfl) (by kernel_rfl) (by kernel_rfl) (fun _ _ _ h => h) (Or.inl ⟨by rfl, ?_⟩) ?_
          rotate_left
          · intro w; go_simp; try with_reducible rfl
          refine wpAny_ready (rs := [0, 7]) (by kernel_rfl) (by simp) ?_
          refine AllReady.cons rfl (fun K hK => ?_) (AllReady.cons rfl (fun K hK => ?_) AllReady.nil)
          · go_simp
            refine hK _ _ ?_
            clear hK K
            refine wpAny_ready (rs := [7]) (by kernel_rfl) (by simp) ?_
            refine AllReady.cons rfl (fun K hK => ?_) AllReady.nil
            go_simp
            refine hK _ _ ?_
            clear hK K
            refine wpAny_ready (rs := [8]) (by kernel_rfl) (by simp) ?_
            refine AllReady.cons rfl (fun K hK => ?_) AllReady.nil
            go_simp
            go_wp2_with (go_at_call 51; refine (hF _).mono ?_; rintro e w1 ⟨rfl, hb1⟩)
            try (refine hK _ _ ?_; clear hK K)
            refine wpAny_take (i := 9) (v := .bool true) rfl (by kernel_rfl) (by kernel_rfl) (by kernel_rfl) (fun _ _ _ h => h) (Or.inl ⟨by kernel_rfl, fun w => by kernel_rfl⟩) ?_
            refine wpAny_take (i := 10) (v := .bool true) rfl (by kernel_rfl) (by kernel_rfl) (by kernel_rfl) (fun _ _ _ h => h) (Or.inl ⟨by kernel_rfl, fun w => by kernel_rfl⟩) ?_
            refine wpAny_take (i := 11) (v := undef) rfl (by kernel_rfl) (by kernel_rfl) (by kernel_rfl) (fun _ _ _ h => h) (Or.inr ⟨by kernel_rfl, rfl⟩) ?_
            refine wpAny_take (i := 12) (v := undef) rfl (by kernel_rfl) (by kernel_rfl) (by kernel_rfl) (fun _ _ _ h => h) (Or.inr ⟨by kernel_rfl, rfl⟩) ?_
            refine wpAny_take (i := 13) (v := undef) rfl (by kernel_rfl) (by kernel_rfl) (by kernel_rfl) (fun _ _ _ h => h) (Or.inr ⟨by kernel_rfl, rfl⟩) ?_
            refine wpAny_take (i := 14) (v := undef) rfl (by kernel_rfl) (by kernel_rfl) (by kernel_rfl) (fun _ _ _ h => h) (Or.inr ⟨by kernel_rfl, rfl⟩) ?_
            refine wpAny_take (i := 15) (v := undef) rfl (by kernel_rfl) (by kernel_rfl) (by kernel_rfl) (fun _ _ _ h => h) (Or.inr ⟨by kernel_rfl, rfl⟩) ?_
            refine wpAny_take (i := 16) (v := undef) rfl (by kernel_rfl) (by kernel_rfl) (by kernel_rfl) (fun _ _ _ h => h) (Or.inr ⟨by kernel_rfl, rfl⟩) ?_
            refine wpAny_take (i := 17) (v := undef) rfl (by kernel_rfl) (by kernel_rfl) (by kernel_rfl) (fun _ _ _ h => h) (Or.inr ⟨by kernel_rfl, rfl⟩) ?_
            refine wpAny_take (i := 18) (v := .bool true) rfl (by kernel_rfl) (by kernel_rfl) (by kernel_rfl) (fun _ _ _ h => h) (Or.inl ⟨by kernel_rfl, fun w => by kernel_rfl⟩) ?_
            refine wpAny_done (by kernel_rfl) ?_ _
            refine fr156 (Q := Exit.then _ _ .normal) (by kernel_rfl) (by kernel_rfl) (by kernel_rfl) ?_
            intro fr h156 hsz hd
            go_wp2
            refine tail22 h156 ?_
            exact (bodyPost_ret (R := fun e w' => e = .returned (.bool false) ∧ Below w.heap.size w w') (res22 hsz) (def22 hd) ⟨rfl, ext_trans hbw.drew hb1⟩ : bodyPost Tryz.prog Tryz.f22 _ .ret _ _)
          · go_simp
            refine hK _ _ ?_
            clear hK K
            refine wpAny_ready (rs := [0]) (by kernel_rfl) (by simp) ?_
            refine AllReady.cons rfl (fun K hK => ?_) AllReady.nil
            go_simp
            refine hK _ _ ?_
            clear hK K
            refine wpAny_ready (rs := [8]) (by kernel_rfl) (by simp) ?_
            refine AllReady.cons rfl (fun K hK => ?_) AllReady.nil
            go_simp
            go_wp2_with (go_at_call 51; refine (hF _).mono ?_; rintro e w1 ⟨rfl, hb1⟩)
            try (refine hK _ _ ?_; clear hK K)
            refine wpAny_take (i := 9) (v := .bool true) rfl (by kernel_rfl) (by kernel_rfl) (by kernel_rfl) (fun _ _ _ h => h) (Or.inl ⟨by kernel_rfl, fun w => by kernel_rfl⟩) ?_
            refine wpAny_take (i := 10) (v := .bool true) rfl (by kernel_rfl) (by kernel_rfl) (by kernel_rfl) (fun _ _ _ h => h) (Or.inl ⟨by kernel_rfl, fun w => by kernel_rfl⟩) ?_
            refine wpAny_take (i := 11) (v := undef) rfl (by kernel_rfl) (by kernel_rfl) (by kernel_rfl) (fun _ _ _ h => h) (Or.inr ⟨by kernel_rfl, rfl⟩) ?_
            refine wpAny_take (i := 12) (v := undef) rfl (by kernel_rfl) (by kernel_rfl) (by kernel_rfl) (fun _ _ _ h => h) (Or.inr ⟨by kernel_rfl, rfl⟩) ?_
            refine wpAny_take (i := 13) (v := undef) rfl (by kernel_rfl) (by kernel_rfl) (by kernel_rfl) (fun _ _ _ h => h) (Or.inr ⟨by kernel_rfl, rfl⟩) ?_
            refine wpAny_take (i := 14) (v := undef) rfl (by kernel_rfl) (by kernel_rfl) (by kernel_rfl) (fun _ _ _ h => h) (Or.inr ⟨by kernel_rfl, rfl⟩) ?_
            refine wpAny_take (i := 15) (v := undef) rfl (by kernel_rfl) (by kernel_rfl) (by kernel_rfl) (fun _ _ _ h => h) (Or.inr ⟨by kernel_rfl, rfl⟩) ?_
            refine wpAny_take (i := 16) (v := undef) rfl (by kernel_rfl) (by kernel_rfl) (by kernel_rfl) (fun _ _ _ h => h) (Or.inr ⟨by kernel_rfl, rfl⟩) ?_
            refine wpAny_take (i := 17) (v := undef) rfl (by kernel_rfl) (by kernel_rfl) (by kernel_rfl) (fun _ _ _ h => h) (Or.inr ⟨by kernel_rfl, rfl⟩) ?_
            refine wpAny_take (i := 18) (v := .bool true) rfl (by kernel_rfl) (by kernel_rfl) (by kernel_rfl) (fun _ _ _ h => h) (Or.inl ⟨by kernel_rfl, fun w => by kernel_rfl⟩) ?_
            refine wpAny_done (by kernel_rfl) ?_ _
            refine fr156 (Q := Exit.then _ _ .normal) (by kernel_rfl) (by kernel_rfl) (by kernel_rfl) ?_
            intro fr h156 hsz hd
            go_wp2
            refine tail22 h156 ?_
            exact (bodyPost_ret (R := fun e w' => e = .returned (.bool false) ∧ Below w.heap.size w w') (res22 hsz) (def22 hd) ⟨rfl, ext_trans hbw.drew hb1⟩ : bodyPost Tryz.prog Tryz.f22 _ .ret _ _)
      · rw [e1] at hF
        cases e2 : isD y
        · rw [e2] at hcall
          have hA := (hbad.out (by rw [e1, e2]; rfl)).out
          subst hA
          replace e1 : Hid _ := e1
          replace e2 : Hid _ := e2
          go_wp2
          go_region_held3 (fun u => u.cell? ⟨w.heap.size, 0, none⟩ = some (.int .i64 k) ∧ u.cell? ⟨w.heap.size, 1, none⟩ = some (sk t) ∧ u.cell? ⟨w.heap.size, 2, none⟩ = some (.int .i64 0) ∧ u.cell? ⟨w.heap.size, 3, none⟩ = some (.slice (some ⟨g, off, none⟩) L cap) ∧ u.cell? ⟨g, off + j * 4, none⟩ = some (.int .i64 y.k) ∧ u.cell? ⟨g, off + j * 4 + 1, none⟩ = some (sk y.t) ∧ u.cell? ⟨g, off + j * 4 + 2, none⟩ = some (.int .i64 y.n) ∧ u.cell? ⟨g, off + j * 4 + 3, none⟩ = some (.slice yb y.kids.length yc)) (go_keep) (first | (go_at_call 51; refine (hF _).mono ?_; rintro e w1 ⟨rfl, hb1⟩; replace gw := block_below hb1 (show wr.drew.heap[w.heap.size]? = _ from gw); replace hbw := ext_trans hbw.drew hb1; obtain ⟨q0, q1, q2, q3, _, _, _, _⟩ := in4 gw; have c0 := cellB hb1 (show wr.drew.cell? _ = _ from c0); have c1 := cellB hb1 (show wr.drew.cell? _ = _ from c1); have c2 := cellB hb1 (show wr.drew.cell? _ = _ from c2); have c3 := cellB hb1 (show wr.drew.cell? _ = _ from c3)) | (go_at_call 22; refine (hcall _ hbw).mono ?_; rintro e w2 ⟨rfl, hb2⟩; replace gw := block_below hb2 gw; replace hbw := ext_trans hbw hb2; obtain ⟨q0, q1, q2, q3, _, _, _, _⟩ := in4 gw; have c0 := cellB hb2 c0; have c1 := cellB hb2 c1; have c2 := cellB hb2 c2; have c3 := cellB hb2 c3))
          go_wp2
          go_ret
          exact ⟨rfl, hbw⟩
        · rw [e2] at hcall
          have hA := (hnext.out (by rw [e1, e2]; rfl)).out
          replace e1 : Hid _ := e1
          replace e2 : Hid _ := e2
          replace hA : Hid _ := hA
          go_wp2
          go_region_held3 (fun u => u.cell? ⟨w.heap.size, 0, none⟩ = some (.int .i64 k) ∧ u.cell? ⟨w.heap.size, 1, none⟩ = some (sk t) ∧ u.cell? ⟨w.heap.size, 2, none⟩ = some (.int .i64 0) ∧ u.cell? ⟨w.heap.size, 3, none⟩ = some (.slice (some ⟨g, off, none⟩) L cap) ∧ u.cell? ⟨g, off + j * 4, none⟩ = some (.int .i64 y.k) ∧ u.cell? ⟨g, off + j * 4 + 1, none⟩ = some (sk y.t) ∧ u.cell? ⟨g, off + j * 4 + 2, none⟩ = some (.int .i64 y.n) ∧ u.cell? ⟨g, off + j * 4 + 3, none⟩ = some (.slice yb y.kids.length yc)) (go_keep) (first | (go_at_call 51; refine (hF _).mono ?_; rintro e w1 ⟨rfl, hb1⟩; replace gw := block_below hb1 (show wr.drew.heap[w.heap.size]? = _ from gw); replace hbw := ext_trans hbw.drew hb1; obtain ⟨q0, q1, q2, q3, _, _, _, _⟩ := in4 gw; have c0 := cellB hb1 (show wr.drew.cell? _ = _ from c0); have c1 := cellB hb1 (show wr.drew.cell? _ = _ from c1); have c2 := cellB hb1 (show wr.drew.cell? _ = _ from c2); have c3 := cellB hb1 (show wr.drew.cell? _ = _ from c3)) | (go_at_call 22; refine (hcall _ hbw).mono ?_; rintro e w2 ⟨rfl, hb2⟩; replace gw := block_below hb2 gw; replace hbw := ext_trans hbw hb2; obtain ⟨q0, q1, q2, q3, _, _, _, _⟩ := in4 gw; have c0 := cellB hb2 c0; have c1 := cellB hb2 c1; have c2 := cellB hb2 c2; have c3 := cellB hb2 c3))
          go_wp2
          go_roundw
          case rel => exact ⟨j + 1, by omega, by go_num, hA.out, hbw, gw⟩
          case measure => simp [intOf]; omega
    · have hge : ¬ (j : Int) < (L : Int) := by omega
      have hA : ans = true := hyes.out fun i y hy => hG.out i y (by have := (List.getElem?_eq_some_iff.1 hy).1; have := hL.out; omega) hy
      subst hA
      go_wp2
      go_ret
      exact ⟨rfl, hbw⟩
end Go.Proofs.YtbdkiimggggndaaGreatDoor
