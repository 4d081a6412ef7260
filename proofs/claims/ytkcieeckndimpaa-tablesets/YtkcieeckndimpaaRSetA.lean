/- The document's own Set: what is wrong. -/
import Derived.Test.YtkcieeckndimpaaSetA
import Derived.Test.YtkcieeckndimpaaRMay
namespace Go.Proofs.Ytkcieeckndimpaa
open Go.RowKit Go.Shelf
open Go

set_option linter.unusedSectionVars false
variable [DecidableEq Vl]

theorem res17 {tm : Array Value} {W : World} {B : Nat} {a a' : Option Addr} {n n' c c' : Nat} {ec : Int} (h : tm[6]?.getD undef = .pointer (some ⟨B, 0, none⟩)) (h' : tm[7]?.getD undef = .int .i64 ec) (hx : W.heap[B]? = some (.cells #[.slice a n c, .slice a' n' c'] 24)) : (results Try.f17 tm).run Try.prog W = .ok (.tuple #[.agg #[.slice a n c, .slice a' n' c'], .int .i64 ec]) W := by
  have c0 : W.cell? ⟨B, 0, none⟩ = some (.slice a n c) := cell_block hx rfl
  have c1 : W.cell? ⟨B, 1, none⟩ = some (.slice a' n' c') := cell_block hx rfl
  simp [results, Try.results17, go_sem, h, h', c0, c1]

set_option maxRecDepth 100000 in
set_option maxHeartbeats 2000000 in
theorem rset_e1 (ks vs : Value) (xs ys : List Vl) (k v : Vl) (w : World) (hT : Tab w.heap.size w ks vs xs ys) (h : mayT xs ys = false) :
    Calls Try.prog 17 #[.agg #[ks, vs], k.v, v.v] w fun e w' => e = .returned (.tuple #[.agg #[.slice none 0 0, .slice none 0 0], .int .i64 2]) ∧ Below w.heap.size w w' := by
  obtain ⟨a, c1, rfl, _, _⟩ := hT.keys
  obtain ⟨a', c2, rfl, _, _⟩ := hT.vals
  obtain ⟨W1, hW1⟩ : ∃ W1, (((w.alloc (.cells #[.slice a xs.length c1, .slice a' ys.length c2] 24)).alloc (bx k)).alloc (bx v)).alloc zeroT = W1 := ⟨_, rfl⟩
  obtain ⟨hs1, hb0, ht, hk, hv, hr⟩ := set_mem w _ k v hW1
  have hM := rtmay_f h (.slice a xs.length c1) (.slice a' ys.length c2) _ ((hT.below hb0).mono hb0.size)
  rw [← hW1] at hM
  clear h 
  replace hW1 : Hid _ := hW1
  go_enter Try.func17, Try.ntmps17
  go_wp2_with (go_at_call 13; refine hM.mono ?_; rintro e w1 ⟨rfl, hb1⟩; refine Hid.out ?_)
  rw [hW1.out] at hb1
  clear hM hW1
  replace hb0 := hb0.trans (hb1.mono hb0.size)
  replace ht := block_below hb1 ht
  replace hk := block_below hb1 hk
  replace hv := block_below hb1 hv
  replace hr := block_below hb1 hr
  clear hb1
  obtain ⟨k0, k1, k2, _, _, _⟩ := in3 hk
  obtain ⟨v0, v1, v2, _, _, _⟩ := in3 hv
  have r0 : w1.cell? ⟨w.heap.size + 1 + 1 + 1, 0, none⟩ = some (.slice none 0 0) := cell_block hr rfl
  have r1 : w1.cell? ⟨w.heap.size + 1 + 1 + 1, 1, none⟩ = some (.slice none 0 0) := cell_block hr rfl
  have f0 : w1.frozen? ⟨w.heap.size + 1 + 1 + 1, 0, none⟩ = false := frozen_block hr
  have f1 : w1.frozen? ⟨w.heap.size + 1 + 1 + 1, 1, none⟩ = false := frozen_block hr
  refine Lib.hid ?_
  go_wp2
  exact bodyPost_ret (res17 rfl rfl (put2_same hr)) rfl ⟨rfl, put2_below _ _ hb0 (by omega)⟩

set_option maxRecDepth 100000 in
set_option maxHeartbeats 2000000 in
theorem rset_e2 (ks vs : Value) (xs ys : List Vl) (k v : Vl) (w : World) (hT : Tab w.heap.size w ks vs xs ys) (h : mayT xs ys = true) (h1 : mayB k.k k.n k.s = false) :
    Calls Try.prog 17 #[.agg #[ks, vs], k.v, v.v] w fun e w' => e = .returned (.tuple #[.agg #[.slice none 0 0, .slice none 0 0], .int .i64 2]) ∧ Below w.heap.size w w' := by
  obtain ⟨a, c1, rfl, _, _⟩ := hT.keys
  obtain ⟨a', c2, rfl, _, _⟩ := hT.vals
  obtain ⟨W1, hW1⟩ : ∃ W1, (((w.alloc (.cells #[.slice a xs.length c1, .slice a' ys.length c2] 24)).alloc (bx k)).alloc (bx v)).alloc zeroT = W1 := ⟨_, rfl⟩
  obtain ⟨hs1, hb0, ht, hk, hv, hr⟩ := set_mem w _ k v hW1
  have hM := rtmay_t h (.slice a xs.length c1) (.slice a' ys.length c2) _ ((hT.below hb0).mono hb0.size)
  rw [← hW1] at hM
  have hV0 := fun u => rmay_v k u
  rw [h1] at hV0
  clear h h1
  replace hW1 : Hid _ := hW1
  go_enter Try.func17, Try.ntmps17
  go_wp2_with (go_at_call 13; refine hM.mono ?_; rintro e w1 ⟨rfl, hb1⟩; refine Hid.out ?_)
  rw [hW1.out] at hb1
  clear hM hW1
  replace hb0 := hb0.trans (hb1.mono hb0.size)
  replace ht := block_below hb1 ht
  replace hk := block_below hb1 hk
  replace hv := block_below hb1 hv
  replace hr := block_below hb1 hr
  clear hb1
  obtain ⟨k0, k1, k2, _, _, _⟩ := in3 hk
  obtain ⟨v0, v1, v2, _, _, _⟩ := in3 hv
  have r0 : w1.cell? ⟨w.heap.size + 1 + 1 + 1, 0, none⟩ = some (.slice none 0 0) := cell_block hr rfl
  have r1 : w1.cell? ⟨w.heap.size + 1 + 1 + 1, 1, none⟩ = some (.slice none 0 0) := cell_block hr rfl
  have f0 : w1.frozen? ⟨w.heap.size + 1 + 1 + 1, 0, none⟩ = false := frozen_block hr
  have f1 : w1.frozen? ⟨w.heap.size + 1 + 1 + 1, 1, none⟩ = false := frozen_block hr
  refine Lib.hid ?_
  go_wp2_with (go_at_call_of 22 k; refine (hV0 _).mono ?_; rintro e w2 ⟨rfl, hb1⟩; refine Hid.out ?_)
  clear k0 k1 k2 v0 v1 v2 r0 r1 f0 f1
  replace hb0 := hb0.trans (hb1.mono hb0.size)
  replace ht := block_below hb1 ht
  replace hk := block_below hb1 hk
  replace hv := block_below hb1 hv
  replace hr := block_below hb1 hr
  clear hb1
  obtain ⟨k0, k1, k2, _, _, _⟩ := in3 hk
  obtain ⟨v0, v1, v2, _, _, _⟩ := in3 hv
  have r0 : w2.cell? ⟨w.heap.size + 1 + 1 + 1, 0, none⟩ = some (.slice none 0 0) := cell_block hr rfl
  have r1 : w2.cell? ⟨w.heap.size + 1 + 1 + 1, 1, none⟩ = some (.slice none 0 0) := cell_block hr rfl
  have f0 : w2.frozen? ⟨w.heap.size + 1 + 1 + 1, 0, none⟩ = false := frozen_block hr
  have f1 : w2.frozen? ⟨w.heap.size + 1 + 1 + 1, 1, none⟩ = false := frozen_block hr
  refine Lib.hid ?_
  go_wp2
  exact bodyPost_ret (res17 rfl rfl (put2_same hr)) rfl ⟨rfl, put2_below _ _ hb0 (by omega)⟩

set_option maxRecDepth 100000 in
set_option maxHeartbeats 2000000 in
theorem rset_e3 (ks vs : Value) (xs ys : List Vl) (k v : Vl) (w : World) (hT : Tab w.heap.size w ks vs xs ys) (h : mayT xs ys = true) (h1 : mayB k.k k.n k.s = true) (h2 : mayB v.k v.n v.s = false) :
    Calls Try.prog 17 #[.agg #[ks, vs], k.v, v.v] w fun e w' => e = .returned (.tuple #[.agg #[.slice none 0 0, .slice none 0 0], .int .i64 2]) ∧ Below w.heap.size w w' := by
  obtain ⟨a, c1, rfl, _, _⟩ := hT.keys
  obtain ⟨a', c2, rfl, _, _⟩ := hT.vals
  obtain ⟨W1, hW1⟩ : ∃ W1, (((w.alloc (.cells #[.slice a xs.length c1, .slice a' ys.length c2] 24)).alloc (bx k)).alloc (bx v)).alloc zeroT = W1 := ⟨_, rfl⟩
  obtain ⟨hs1, hb0, ht, hk, hv, hr⟩ := set_mem w _ k v hW1
  have hM := rtmay_t h (.slice a xs.length c1) (.slice a' ys.length c2) _ ((hT.below hb0).mono hb0.size)
  rw [← hW1] at hM
  have hV0 := fun u => rmay_v k u
  rw [h1] at hV0
  have hV1 := fun u => rmay_v v u
  rw [h2] at hV1
  clear h h1 h2
  replace hW1 : Hid _ := hW1
  go_enter Try.func17, Try.ntmps17
  go_wp2_with (go_at_call 13; refine hM.mono ?_; rintro e w1 ⟨rfl, hb1⟩; refine Hid.out ?_)
  rw [hW1.out] at hb1
  clear hM hW1
  replace hb0 := hb0.trans (hb1.mono hb0.size)
  replace ht := block_below hb1 ht
  replace hk := block_below hb1 hk
  replace hv := block_below hb1 hv
  replace hr := block_below hb1 hr
  clear hb1
  obtain ⟨k0, k1, k2, _, _, _⟩ := in3 hk
  obtain ⟨v0, v1, v2, _, _, _⟩ := in3 hv
  have r0 : w1.cell? ⟨w.heap.size + 1 + 1 + 1, 0, none⟩ = some (.slice none 0 0) := cell_block hr rfl
  have r1 : w1.cell? ⟨w.heap.size + 1 + 1 + 1, 1, none⟩ = some (.slice none 0 0) := cell_block hr rfl
  have f0 : w1.frozen? ⟨w.heap.size + 1 + 1 + 1, 0, none⟩ = false := frozen_block hr
  have f1 : w1.frozen? ⟨w.heap.size + 1 + 1 + 1, 1, none⟩ = false := frozen_block hr
  refine Lib.hid ?_
  go_wp2_with (go_at_call_of 22 k; refine (hV0 _).mono ?_; rintro e w2 ⟨rfl, hb1⟩; refine Hid.out ?_)
  clear k0 k1 k2 v0 v1 v2 r0 r1 f0 f1
  replace hb0 := hb0.trans (hb1.mono hb0.size)
  replace ht := block_below hb1 ht
  replace hk := block_below hb1 hk
  replace hv := block_below hb1 hv
  replace hr := block_below hb1 hr
  clear hb1
  obtain ⟨k0, k1, k2, _, _, _⟩ := in3 hk
  obtain ⟨v0, v1, v2, _, _, _⟩ := in3 hv
  have r0 : w2.cell? ⟨w.heap.size + 1 + 1 + 1, 0, none⟩ = some (.slice none 0 0) := cell_block hr rfl
  have r1 : w2.cell? ⟨w.heap.size + 1 + 1 + 1, 1, none⟩ = some (.slice none 0 0) := cell_block hr rfl
  have f0 : w2.frozen? ⟨w.heap.size + 1 + 1 + 1, 0, none⟩ = false := frozen_block hr
  have f1 : w2.frozen? ⟨w.heap.size + 1 + 1 + 1, 1, none⟩ = false := frozen_block hr
  refine Lib.hid ?_
  go_wp2_with (go_at_call_of 22 v; refine (hV1 _).mono ?_; rintro e w3 ⟨rfl, hb1⟩; refine Hid.out ?_)
  clear k0 k1 k2 v0 v1 v2 r0 r1 f0 f1
  replace hb0 := hb0.trans (hb1.mono hb0.size)
  replace ht := block_below hb1 ht
  replace hk := block_below hb1 hk
  replace hv := block_below hb1 hv
  replace hr := block_below hb1 hr
  clear hb1
  obtain ⟨k0, k1, k2, _, _, _⟩ := in3 hk
  obtain ⟨v0, v1, v2, _, _, _⟩ := in3 hv
  have r0 : w3.cell? ⟨w.heap.size + 1 + 1 + 1, 0, none⟩ = some (.slice none 0 0) := cell_block hr rfl
  have r1 : w3.cell? ⟨w.heap.size + 1 + 1 + 1, 1, none⟩ = some (.slice none 0 0) := cell_block hr rfl
  have f0 : w3.frozen? ⟨w.heap.size + 1 + 1 + 1, 0, none⟩ = false := frozen_block hr
  have f1 : w3.frozen? ⟨w.heap.size + 1 + 1 + 1, 1, none⟩ = false := frozen_block hr
  refine Lib.hid ?_
  go_wp2
  exact bodyPost_ret (res17 rfl rfl (put2_same hr)) rfl ⟨rfl, put2_below _ _ hb0 (by omega)⟩

set_option maxRecDepth 100000 in
set_option maxHeartbeats 2000000 in
theorem rset_e4 (ks vs : Value) (xs ys : List Vl) (k v : Vl) (w : World) (hT : Tab w.heap.size w ks vs xs ys) (h : mayT xs ys = true) (h1 : mayB k.k k.n k.s = true) (h2 : mayB v.k v.n v.s = true) (h3 : (k.k == 0) = true) :
    Calls Try.prog 17 #[.agg #[ks, vs], k.v, v.v] w fun e w' => e = .returned (.tuple #[.agg #[.slice none 0 0, .slice none 0 0], .int .i64 3]) ∧ Below w.heap.size w w' := by
  obtain ⟨a, c1, rfl, _, _⟩ := hT.keys
  obtain ⟨a', c2, rfl, _, _⟩ := hT.vals
  obtain ⟨W1, hW1⟩ : ∃ W1, (((w.alloc (.cells #[.slice a xs.length c1, .slice a' ys.length c2] 24)).alloc (bx k)).alloc (bx v)).alloc zeroT = W1 := ⟨_, rfl⟩
  obtain ⟨hs1, hb0, ht, hk, hv, hr⟩ := set_mem w _ k v hW1
  have hM := rtmay_t h (.slice a xs.length c1) (.slice a' ys.length c2) _ ((hT.below hb0).mono hb0.size)
  rw [← hW1] at hM
  have hV0 := fun u => rmay_v k u
  rw [h1] at hV0
  have hV1 := fun u => rmay_v v u
  rw [h2] at hV1
  clear h h1 h2
  replace hW1 : Hid _ := hW1
  go_enter Try.func17, Try.ntmps17
  go_wp2_with (go_at_call 13; refine hM.mono ?_; rintro e w1 ⟨rfl, hb1⟩; refine Hid.out ?_)
  rw [hW1.out] at hb1
  clear hM hW1
  replace hb0 := hb0.trans (hb1.mono hb0.size)
  replace ht := block_below hb1 ht
  replace hk := block_below hb1 hk
  replace hv := block_below hb1 hv
  replace hr := block_below hb1 hr
  clear hb1
  obtain ⟨k0, k1, k2, _, _, _⟩ := in3 hk
  obtain ⟨v0, v1, v2, _, _, _⟩ := in3 hv
  have r0 : w1.cell? ⟨w.heap.size + 1 + 1 + 1, 0, none⟩ = some (.slice none 0 0) := cell_block hr rfl
  have r1 : w1.cell? ⟨w.heap.size + 1 + 1 + 1, 1, none⟩ = some (.slice none 0 0) := cell_block hr rfl
  have f0 : w1.frozen? ⟨w.heap.size + 1 + 1 + 1, 0, none⟩ = false := frozen_block hr
  have f1 : w1.frozen? ⟨w.heap.size + 1 + 1 + 1, 1, none⟩ = false := frozen_block hr
  refine Lib.hid ?_
  go_wp2_with (go_at_call_of 22 k; refine (hV0 _).mono ?_; rintro e w2 ⟨rfl, hb1⟩; refine Hid.out ?_)
  clear k0 k1 k2 v0 v1 v2 r0 r1 f0 f1
  replace hb0 := hb0.trans (hb1.mono hb0.size)
  replace ht := block_below hb1 ht
  replace hk := block_below hb1 hk
  replace hv := block_below hb1 hv
  replace hr := block_below hb1 hr
  clear hb1
  obtain ⟨k0, k1, k2, _, _, _⟩ := in3 hk
  obtain ⟨v0, v1, v2, _, _, _⟩ := in3 hv
  have r0 : w2.cell? ⟨w.heap.size + 1 + 1 + 1, 0, none⟩ = some (.slice none 0 0) := cell_block hr rfl
  have r1 : w2.cell? ⟨w.heap.size + 1 + 1 + 1, 1, none⟩ = some (.slice none 0 0) := cell_block hr rfl
  have f0 : w2.frozen? ⟨w.heap.size + 1 + 1 + 1, 0, none⟩ = false := frozen_block hr
  have f1 : w2.frozen? ⟨w.heap.size + 1 + 1 + 1, 1, none⟩ = false := frozen_block hr
  refine Lib.hid ?_
  go_wp2_with (go_at_call_of 22 v; refine (hV1 _).mono ?_; rintro e w3 ⟨rfl, hb1⟩; refine Hid.out ?_)
  clear k0 k1 k2 v0 v1 v2 r0 r1 f0 f1
  replace hb0 := hb0.trans (hb1.mono hb0.size)
  replace ht := block_below hb1 ht
  replace hk := block_below hb1 hk
  replace hv := block_below hb1 hv
  replace hr := block_below hb1 hr
  clear hb1
  obtain ⟨k0, k1, k2, _, _, _⟩ := in3 hk
  obtain ⟨v0, v1, v2, _, _, _⟩ := in3 hv
  have r0 : w3.cell? ⟨w.heap.size + 1 + 1 + 1, 0, none⟩ = some (.slice none 0 0) := cell_block hr rfl
  have r1 : w3.cell? ⟨w.heap.size + 1 + 1 + 1, 1, none⟩ = some (.slice none 0 0) := cell_block hr rfl
  have f0 : w3.frozen? ⟨w.heap.size + 1 + 1 + 1, 0, none⟩ = false := frozen_block hr
  have f1 : w3.frozen? ⟨w.heap.size + 1 + 1 + 1, 1, none⟩ = false := frozen_block hr
  refine Lib.hid ?_
  go_wp2
  exact bodyPost_ret (res17 rfl rfl (put2_same hr)) rfl ⟨rfl, put2_below _ _ hb0 (by omega)⟩

end Go.Proofs.Ytkcieeckndimpaa
