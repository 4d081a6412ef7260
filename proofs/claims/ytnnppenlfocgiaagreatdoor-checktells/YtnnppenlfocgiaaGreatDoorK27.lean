/- The program's reader: an expression that is one token: texts, words. -/
import Derived.Test.YtnnppenlfocgiaaGreatDoorK18
namespace Go.Proofs.YtnnppenlfocgiaaGreatDoor
open Go.RowKit
open Go

set_option maxRecDepth 20000 in
set_option maxHeartbeats 800000 in
theorem lit_none (B : Nat) (ts : List Tok) (i : Nat) (k : Int) (t : List UInt8) (a : Int) (w : World) (hC : Ctx w B ts i) (hV : tokH ts i = tokv k ⟨t.toArray⟩ a) (hk2 : ¬ k = 2) (hk3 : ¬ k = 3) (q : Int) (hq : (atomsKV.lookup (wd ts i)).getD (ik 0) = ik q) (hok : (atomsKV.lookup (wd ts i)).isSome = false) : Calls Tryz.prog 152 #[.pointer (some ⟨B, 0, none⟩)] w (LU w B ts (nd q []) false i) := by
  have hBw := hC.R.lt
  have hsh := hC.R.short
  have hb0 : Below w.heap.size w (w.alloc zbx) := ext_alloc (Below.refl _ _) _
  have hTk := token_any B ts i _ (hC.R.below hb0)
  rw [hV] at hTk
  have hWd := fun u (hb : Below w.heap.size w u) => word_any B ts i u (hC.R.below hb)
  have hL := fun m u h => look_int (u := u) (m := m) (kv := atomsKV) (by decide) h (wd ts i)
  rw [hq, hok] at hL
  obtain ⟨s, hs⟩ : ∃ s, wd ts i = s := ⟨_, rfl⟩
  rw [hs] at hL hWd
  have z0 := alloc_new w zbx
  clear hV hs hq hok
  go_enter Tryz.func152, Tryz.ntmps152
  go_wp2_with (go_at_call 96; refine hTk.mono ?_; rintro e w1 ⟨rfl, hb1⟩)
  have hb1' : Below w.heap.size w (w1.alloc (tbx k ⟨t.toArray⟩ a)) := ext_alloc (ext_trans hb0 hb1) _
  obtain ⟨m1, m2, m3, m4, m5, b, cap, h1, _, hW, _⟩ := (hC.R.below hb1').box
  obtain ⟨c0, c1, c2, c3, c4, c5, c6, f6⟩ := rdC h1
  have q0 : LkM m5 (mapObj sk atomsKV) (w1.alloc (tbx k ⟨t.toArray⟩ a)) := hW.h5
  obtain ⟨t0, t1⟩ := box44 (alloc_new w1 (tbx k ⟨t.toArray⟩ a))
  have z1 := block_alloc (tbx k ⟨t.toArray⟩ a) (block_below hb1 z0)
  obtain ⟨t4, ht4⟩ : ∃ t4, w1.heap.size = t4 := ⟨_, rfl⟩
  obtain ⟨W1, hW1⟩ : ∃ W1, w1.alloc (tbx k ⟨t.toArray⟩ a) = W1 := ⟨_, rfl⟩
  rw [hW1] at hb1' c4 q0 t0 t1 z1
  dsimp only [tbx] at hW1
  rw [ht4] at t0 t1
  rw [hW1, ht4]
  have hL5 := hL m5
  clear hW h1 c0 c1 c2 c3 c5 c6 f6 hW1 ht4 hb1 hTk z0 hL
  go_region_with ((go_at_call 98; refine (hWd _ (hb1'.drew)).mono ?_; rintro e w2 ⟨rfl, hb2⟩; have q3 := LkM.below (LkM.drew _ q0) hb2; have c4 := cellB (W := W1.drew) hb2 c4))
  all_goals
    have t0' := cellB (W := W1.drew) hb2 t0
    have t1' := cellB (W := W1.drew) hb2 t1
    have z2 := block_below (W := W1.drew) hb2 z1
    have hb2' := ext_trans (hb1'.drew) hb2
    have t0a := fun o => cellB (ext_alloc (Below.refl _ w2) o) t0'
    have t1a := fun o => cellB (ext_alloc (Below.refl _ w2) o) t1'
    clear q0 q3 c4 hL5 hWd t0 t1 z1
    have hz2 := block_lt z2
    have hzz := hb2'.size
    have hR2 := hC.R.below hb2'
    obtain ⟨m1', m2', m3', m4', m5', bb, capb, h1', _⟩ := hR2.box
    have a6 := fun o => (rdC (block_alloc o h1')).c6
    have x6 := fun o => (rdC (block_alloc o h1')).f6
    obtain ⟨d0, d1, d2, d3, e0, e1, e2, e3⟩ := in4 z2
    clear a6 x6
    have n1 : ¬ B = w2.heap.size := by omega
    have n2 : ¬ w2.heap.size = B := by omega
    have n3 : ¬ w.heap.size = w2.heap.size := by omega
    have n4 : ¬ w2.heap.size = w.heap.size := by omega
    have n5 : ¬ B = w.heap.size := by omega
    have n6 : ¬ w.heap.size = B := by omega
    clear h1' t0' t1'
    go_wp2
    refine bodyPost_ret (res179 rfl rfl (block_alloc _ (put4_same _ _ _ _ z2))) rfl ?_
    exact ⟨rfl, ((hC.R.below hb2').put4 _ _ _ _ _ hBw).below (ext_alloc (Below.refl _ _) _), (put4_keeps (Keeps.of_below (S := fun k => k = B) hb2') _ _ _ _ _ (Nat.le_refl _)).trans (Keeps.of_below (ext_alloc (Below.refl _ _) _))⟩
end Go.Proofs.YtnnppenlfocgiaaGreatDoor
