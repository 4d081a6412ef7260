/- Walks of the value package: one text behind the other. -/
import Derived.Test.YtcfkkmelenjjoaaDoorOpC
namespace Go.Proofs.YtcfkkmelenjjoaaDoor
open Go.RowKit
open Go

set_option maxHeartbeats 1600000 in
theorem join_f (k n k' n' : Int) (s s' : ByteArray) (w : World) (h : (k == 2 || k == 3) = false) :
    Calls Tryd.prog 25 #[val k n s, val k' n' s'] w fun e w' => e = .returned (.tuple #[val 0 0 ⟨#[]⟩, .int .i64 3]) ∧ Below w.heap.size w w' := by
  have hmf := hmf
  go_enter Tryd.func25, Tryd.ntmps25
  go_wp2_with (first | (go_at_call 19; go_in) | (go_at_call 33; refine (ask22f _ _ k n k' n' s s' _ _ _ _ (by simp) (asks2_0 _ _ _ (by simp) (by simp) _ _ _ _ _ _) h).mono ?_; rintro e w' ⟨rfl, rfl⟩))
  refine bodyPost_ret (v := .tuple #[val 0 0 ⟨#[]⟩, .int .i64 3]) (by simp [results, Tryd.results25, go_sem]) rfl ⟨rfl, ?_⟩
  repeat (first | exact Below.refl _ _ | refine ext_alloc ?_ _)
set_option maxHeartbeats 1600000 in
theorem join_g (k n k' n' : Int) (s s' : ByteArray) (w : World) (h : (k == 2 || k == 3) = true) (h' : (k' == 2 || k' == 3) = false) :
    Calls Tryd.prog 25 #[val k n s, val k' n' s'] w fun e w' => e = .returned (.tuple #[val 0 0 ⟨#[]⟩, .int .i64 3]) ∧ Below w.heap.size w w' := by
  have hmf := hmf
  go_enter Tryd.func25, Tryd.ntmps25
  go_wp2_with (first | (go_at_call 19; go_in) | (go_at_call 33; refine (ask22g _ _ k n k' n' s s' _ _ _ _ (by simp) (asks2_0 _ _ _ (by simp) (by simp) _ _ _ _ _ _) h h').mono ?_; rintro e w' ⟨rfl, rfl⟩))
  refine bodyPost_ret (v := .tuple #[val 0 0 ⟨#[]⟩, .int .i64 3]) (by simp [results, Tryd.results25, go_sem]) rfl ⟨rfl, ?_⟩
  repeat (first | exact Below.refl _ _ | refine ext_alloc ?_ _)

set_option maxHeartbeats 3200000 in
theorem join_big (k n k' n' : Int) (s s' : ByteArray) (ta tb : ByteArray) (w : World) (h : (k == 2 || k == 3) = true) (h' : (k' == 2 || k' == 3) = true)
    (Ca : ∀ w1, Below w.heap.size w w1 → Calls Tryd.prog 7 #[val k n s] w1 fun e w' => e = .returned (.string ta) ∧ Below w1.heap.size w1 w')
    (Cb : ∀ w1, Below w.heap.size w w1 → Calls Tryd.prog 7 #[val k' n' s'] w1 fun e w' => e = .returned (.string tb) ∧ Below w1.heap.size w1 w')
    (la : ta.size ≤ 300) (lb : tb.size ≤ 300) (hs : 300 < ta.size + tb.size) :
    Calls Tryd.prog 25 #[val k n s, val k' n' s'] w fun e w' => e = .returned (.tuple #[val 0 0 ⟨#[]⟩, .int .i64 1]) ∧ Below w.heap.size w w' := by
  have hmf := hmf
  have hadd := fun (wx : World) => run_string_add_sum (P := Tryd.prog) (w := wx) ta tb (by omega)
  have B0 := boxes0 w k n k' n' 0 0 s s' ⟨#[]⟩
  go_enter Tryd.func25, Tryd.ntmps25
  go_wp2_with (first | (go_at_call 19; go_in) | (go_at_call 33; refine (ask22t _ _ k n k' n' s s' _ _ _ _ (by simp) (asks2_0 _ _ _ (by simp) (by simp) _ _ _ _ _ _) h h').mono ?_; rintro e w' ⟨rfl, rfl⟩))
  have B1 := ((((B0.alloc' (.cells #[.int .i64 k, .int .i64 n, .string s, .int .i64 k', .int .i64 n', .string s'] 23)).alloc' (.cells #[.slice (some ⟨w.heap.size + 1 + 1 + 1, 0, none⟩) 2 2] 48)).alloc' (.cells #[.int .i64 2, .int .i64 3] 3)).alloc' (box k n s)).alloc' (box k' n' s')
  have E1 : Below w.heap.size w ((((((((w.alloc (box k n s)).alloc (box k' n' s')).alloc (box 0 0 ⟨#[]⟩)).alloc (.cells #[.int .i64 k, .int .i64 n, .string s, .int .i64 k', .int .i64 n', .string s'] 23)).alloc (.cells #[.slice (some ⟨w.heap.size + 1 + 1 + 1, 0, none⟩) 2 2] 48)).alloc (.cells #[.int .i64 2, .int .i64 3] 3)).alloc (box k n s)).alloc (box k' n' s')) := ext_alloc (ext_alloc (ext_alloc (ext_alloc (ext_alloc (below3 _ _ _ _) _) _) _) _) _
  generalize hW : (((((((w.alloc (box k n s)).alloc (box k' n' s')).alloc (box 0 0 ⟨#[]⟩)).alloc (.cells #[.int .i64 k, .int .i64 n, .string s, .int .i64 k', .int .i64 n', .string s'] 23)).alloc (.cells #[.slice (some ⟨w.heap.size + 1 + 1 + 1, 0, none⟩) 2 2] 48)).alloc (.cells #[.int .i64 2, .int .i64 3] 3)).alloc (box k n s)).alloc (box k' n' s') = W at B1 E1
  clear hW
  obtain ⟨a0, a1, a2, b0, b1, b2, c0, c1, c2, f0, f1, f2⟩ := id B1
  go_region_held3 (fun w' => w'.cell? ⟨w.heap.size, 0, none⟩ = some (.int .i64 k) ∧ w'.cell? ⟨w.heap.size, 1, none⟩ = some (.int .i64 n) ∧ w'.cell? ⟨w.heap.size, 2, none⟩ = some (.string s) ∧ w'.cell? ⟨w.heap.size + 1, 0, none⟩ = some (.int .i64 k') ∧ w'.cell? ⟨w.heap.size + 1, 1, none⟩ = some (.int .i64 n') ∧ w'.cell? ⟨w.heap.size + 1, 2, none⟩ = some (.string s')) (go_keep) (first | (go_at_call_of 7 s; refine (Ca _ (ext_drew E1)).mono ?_; rintro e w1 ⟨rfl, hb1⟩; have E2 := ext_trans (ext_drew E1) hb1; have B2 := B1.drew.on hb1; obtain ⟨a0, a1, a2, b0, b1, b2, c0, c1, c2, f0, f1, f2⟩ := id B2) | (go_at_call_of 7 s'; refine (Cb _ E2).mono ?_; rintro e w2 ⟨rfl, hb2⟩; have E3 := ext_trans E2 hb2; have B3 := B2.on hb2; obtain ⟨A0, A1, A2, D0, D1, D2, C0, C1, C2, F0, F1, F2⟩ := id B3; have hz := B3.size))
  go_wp2
  refine bodyPost_ret (v := .tuple #[val 0 0 ⟨#[]⟩, .int .i64 1]) (by simp [results, Tryd.results25, go_sem, C0, C1, C2]) rfl ⟨rfl, ?_⟩
  exact ((E3.setCell (by simp; omega) _).setCell (by simp; omega) _).setCell (by simp; omega) _

set_option maxHeartbeats 3200000 in
theorem join_ok (k n k' n' : Int) (s s' : ByteArray) (ta tb : ByteArray) (w : World) (h : (k == 2 || k == 3) = true) (h' : (k' == 2 || k' == 3) = true)
    (Ca : ∀ w1, Below w.heap.size w w1 → Calls Tryd.prog 7 #[val k n s] w1 fun e w' => e = .returned (.string ta) ∧ Below w1.heap.size w1 w')
    (Cb : ∀ w1, Below w.heap.size w w1 → Calls Tryd.prog 7 #[val k' n' s'] w1 fun e w' => e = .returned (.string tb) ∧ Below w1.heap.size w1 w')
    (hs : ta.size + tb.size ≤ 300) :
    Calls Tryd.prog 25 #[val k n s, val k' n' s'] w fun e w' => e = .returned (.tuple #[val 3 0 (ta ++ tb), .int .i64 0]) ∧ Below w.heap.size w w' := by
  have hmf := hmf
  have hadd := fun (wx : World) => run_string_add_sum (P := Tryd.prog) (w := wx) ta tb (by omega)
  have B0 := boxes0 w k n k' n' 0 0 s s' ⟨#[]⟩
  go_enter Tryd.func25, Tryd.ntmps25
  go_wp2_with (first | (go_at_call 19; go_in) | (go_at_call 33; refine (ask22t _ _ k n k' n' s s' _ _ _ _ (by simp) (asks2_0 _ _ _ (by simp) (by simp) _ _ _ _ _ _) h h').mono ?_; rintro e w' ⟨rfl, rfl⟩))
  have B1 := ((((B0.alloc' (.cells #[.int .i64 k, .int .i64 n, .string s, .int .i64 k', .int .i64 n', .string s'] 23)).alloc' (.cells #[.slice (some ⟨w.heap.size + 1 + 1 + 1, 0, none⟩) 2 2] 48)).alloc' (.cells #[.int .i64 2, .int .i64 3] 3)).alloc' (box k n s)).alloc' (box k' n' s')
  have E1 : Below w.heap.size w ((((((((w.alloc (box k n s)).alloc (box k' n' s')).alloc (box 0 0 ⟨#[]⟩)).alloc (.cells #[.int .i64 k, .int .i64 n, .string s, .int .i64 k', .int .i64 n', .string s'] 23)).alloc (.cells #[.slice (some ⟨w.heap.size + 1 + 1 + 1, 0, none⟩) 2 2] 48)).alloc (.cells #[.int .i64 2, .int .i64 3] 3)).alloc (box k n s)).alloc (box k' n' s')) := ext_alloc (ext_alloc (ext_alloc (ext_alloc (ext_alloc (below3 _ _ _ _) _) _) _) _) _
  generalize hW : (((((((w.alloc (box k n s)).alloc (box k' n' s')).alloc (box 0 0 ⟨#[]⟩)).alloc (.cells #[.int .i64 k, .int .i64 n, .string s, .int .i64 k', .int .i64 n', .string s'] 23)).alloc (.cells #[.slice (some ⟨w.heap.size + 1 + 1 + 1, 0, none⟩) 2 2] 48)).alloc (.cells #[.int .i64 2, .int .i64 3] 3)).alloc (box k n s)).alloc (box k' n' s') = W at B1 E1
  clear hW
  obtain ⟨a0, a1, a2, b0, b1, b2, c0, c1, c2, f0, f1, f2⟩ := id B1
  go_region_held3 (fun w' => w'.cell? ⟨w.heap.size, 0, none⟩ = some (.int .i64 k) ∧ w'.cell? ⟨w.heap.size, 1, none⟩ = some (.int .i64 n) ∧ w'.cell? ⟨w.heap.size, 2, none⟩ = some (.string s) ∧ w'.cell? ⟨w.heap.size + 1, 0, none⟩ = some (.int .i64 k') ∧ w'.cell? ⟨w.heap.size + 1, 1, none⟩ = some (.int .i64 n') ∧ w'.cell? ⟨w.heap.size + 1, 2, none⟩ = some (.string s')) (go_keep) (first | (go_at_call_of 7 s; refine (Ca _ (ext_drew E1)).mono ?_; rintro e w1 ⟨rfl, hb1⟩; have E2 := ext_trans (ext_drew E1) hb1; have B2 := B1.drew.on hb1; obtain ⟨a0, a1, a2, b0, b1, b2, c0, c1, c2, f0, f1, f2⟩ := id B2) | (go_at_call_of 7 s'; refine (Cb _ E2).mono ?_; rintro e w2 ⟨rfl, hb2⟩; have E3 := ext_trans E2 hb2; have B3 := B2.on hb2; obtain ⟨A0, A1, A2, D0, D1, D2, C0, C1, C2, F0, F1, F2⟩ := id B3; have hz := B3.size))
  go_wp2
  refine bodyPost_ret (v := .tuple #[val 3 0 (ta ++ tb), .int .i64 0]) (by simp [results, Tryd.results25, go_sem, C0, C1, C2]) rfl ⟨rfl, ?_⟩
  exact ((E3.setCell (by simp; omega) _).setCell (by simp; omega) _).setCell (by simp; omega) _

end Go.Proofs.YtcfkkmelenjjoaaDoor
