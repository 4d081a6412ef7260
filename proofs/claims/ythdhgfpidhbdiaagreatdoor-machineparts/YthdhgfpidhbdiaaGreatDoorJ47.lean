/- The law's own questions: two states that hold the same are the same. Two states that hold the same are the same: the law's question. -/
import Derived.Test.YthdhgfpidhbdiaaGreatDoorJ38
namespace Go.Proofs.YthdhgfpidhbdiaaGreatDoor
open Go.RowKit
open Go

set_option linter.unusedSectionVars false
variable [DecidableEq Vl]

theorem RowS.at {W u : World} {sv : Value} {xs : List ByteArray} (h : RowS W.heap.size W sv xs) (hu : Below W.heap.size W u) : RowS u.heap.size u sv xs := (h.below hu).mono hu.size
set_option maxRecDepth 100000 in
set_option maxHeartbeats 4000000 in
theorem values_same (sv sv' : Value) (xs : List Vl) (W : World) (h : Row W.heap.size W sv xs) (h' : Row W.heap.size W sv' xs) :
    Calls Tryz.prog 36 #[sv, sv'] W fun r w' => r = .returned (.bool true) ∧ Below W.heap.size W w' := by
  obtain ⟨a, cap, rfl, hlen, hrow⟩ := h
  obtain ⟨a', cap', rfl, _, hrow'⟩ := h'
  replace hlen := le_lit hlen
  obtain ⟨n, hn⟩ : ∃ n, xs.length = n := ⟨_, rfl⟩
  have hx : ∀ m, m < n → ∃ b off b' off' x, a = some ⟨b, off, none⟩ ∧ a' = some ⟨b', off', none⟩ ∧ ∀ u, Below W.heap.size W u → Three u b (off + m * 3) x ∧ Three u b' (off' + m * 3) x := fun m hm => by
    have hne : xs ≠ [] := by intro e; subst e; simp at hn; omega
    obtain ⟨b, off, e, hb, hc⟩ := hrow hne
    obtain ⟨b', off', e', hb', hc'⟩ := hrow' hne
    have hxm : xs[m]? = some (xs[m]'(by omega)) := by simp
    exact ⟨b, off, b', off', _, e, e', fun u hu => ⟨(hc m _ hxm).below hu hb, (hc' m _ hxm).below hu hb'⟩⟩
  rw [hn] at hlen ⊢
  clear hrow hrow' hn
  replace hx : Hid _ := hx
  go_enter Tryz.func36, Tryz.ntmps36
  go_wp2
  go_loopw [5] (fun i wr => ∃ m : Nat, m ≤ n ∧ i = .int .i64 m ∧ Below W.heap.size W wr) (fun i _ => n - (intOf i).toNat)
  case atStart => exact ⟨0, Nat.zero_le _, rfl, Below.refl _ _⟩
  case round =>
    obtain ⟨m, hm, rfl, hb⟩ := hrel
    by_cases hlt : m < n
    · obtain ⟨b, off, b', off', x, rfl, rfl, hT⟩ := hx.out m hlt
      replace hT : Hid _ := hT
      go_wp2
      refine wp_quiet (Below W.heap.size W) (by kernel_rfl) (by kernel_rfl) (ext_drew hb) ?_
      repeat (first
       | go_big_quiet_skip
       | (apply quiet_want
          · kernel_rfl
          · intro u hu
            obtain ⟨⟨_, _, _⟩, ⟨_, _, _⟩⟩ := hT.out u hu
            go_simp
            first | with_reducible rfl | skip
          simp only [Act.put, List.setIfInBounds_toArray, List.set_cons_zero, List.set_cons_succ]))
      refine wpQuiet_nil (fun w2 hb2 => ?_)
      go_wp2
      go_roundw
      case rel => exact ⟨m + 1, hlt, by simp, hb2⟩
      case measure => simp [intOf]; omega
    · obtain rfl : m = n := by omega
      go_wp2
      go_ret
      exact ⟨rfl, hb⟩
set_option maxRecDepth 100000 in
set_option maxHeartbeats 4000000 in
theorem begins_same (sv sv' : Value) (xs : List ByteArray) (W : World) (h : RowS W.heap.size W sv xs) (h' : RowS W.heap.size W sv' xs) :
    Calls Tryz.prog 35 #[sv, sv'] W fun r w' => r = .returned (.bool true) ∧ Below W.heap.size W w' := by
  obtain ⟨a, cap, rfl, hlen, hrow⟩ := h
  obtain ⟨a', cap', rfl, _, hrow'⟩ := h'
  replace hlen := le_lit hlen
  obtain ⟨n, hn⟩ : ∃ n, xs.length = n := ⟨_, rfl⟩
  have hx : ∀ m, m < n → ∃ b off b' off' x, a = some ⟨b, off, none⟩ ∧ a' = some ⟨b', off', none⟩ ∧ ∀ u, Below W.heap.size W u → u.cell? ⟨b, off + m, none⟩ = some (.string x) ∧ u.cell? ⟨b', off' + m, none⟩ = some (.string x) := fun m hm => by
    have hne : xs ≠ [] := by intro e; subst e; simp at hn; omega
    obtain ⟨b, off, e, hb, hc⟩ := hrow hne
    obtain ⟨b', off', e', hb', hc'⟩ := hrow' hne
    have hxm : xs[m]? = some (xs[m]'(by omega)) := by simp
    exact ⟨b, off, b', off', _, e, e', fun u hu => ⟨(hu.cell (p := ⟨b, off + m, none⟩) hb).trans (hc m _ hxm), (hu.cell (p := ⟨b', off' + m, none⟩) hb').trans (hc' m _ hxm)⟩⟩
  rw [hn] at hlen ⊢
  clear hrow hrow' hn
  replace hx : Hid _ := hx
  go_enter Tryz.func35, Tryz.ntmps35
  go_wp2
  go_loopw [5] (fun i wr => ∃ m : Nat, m ≤ n ∧ i = .int .i64 m ∧ Below W.heap.size W wr) (fun i _ => n - (intOf i).toNat)
  case atStart => exact ⟨0, Nat.zero_le _, rfl, Below.refl _ _⟩
  case round =>
    obtain ⟨m, hm, rfl, hb⟩ := hrel
    by_cases hlt : m < n
    · obtain ⟨b, off, b', off', x, rfl, rfl, hT⟩ := hx.out m hlt
      replace hT : Hid _ := hT
      go_wp2
      refine wp_quiet (Below W.heap.size W) (by kernel_rfl) (by kernel_rfl) (ext_drew hb) ?_
      repeat (first
       | go_big_quiet_skip
       | (apply quiet_want
          · kernel_rfl
          · intro u hu
            obtain ⟨_, _⟩ := hT.out u hu
            go_simp
            first | with_reducible rfl | skip
          simp only [Act.put, List.setIfInBounds_toArray, List.set_cons_zero, List.set_cons_succ]))
      refine wpQuiet_nil (fun w2 hb2 => ?_)
      go_wp2
      go_roundw
      case rel => exact ⟨m + 1, hlt, by simp, hb2⟩
      case measure => simp [intOf]; omega
    · obtain rfl : m = n := by omega
      go_wp2
      go_ret
      exact ⟨rfl, hb⟩
end Go.Proofs.YthdhgfpidhbdiaaGreatDoor
namespace Go.Proofs.YthdhgfpidhbdiaaGreatDoor
open Go.RowKit
open Go

set_option linter.unusedSectionVars false
variable [DecidableEq Vl]

set_option maxRecDepth 100000 in
set_option maxHeartbeats 8000000 in
theorem same_any (fv tv ov fv' tv' ov' : Value) (s : St) (W : World) (h : StIn W.heap.size W fv tv ov s) (h' : StIn W.heap.size W fv' tv' ov' s) :
    Calls Tryz.prog 14 #[stv fv tv ov s, stv fv' tv' ov' s] W fun r w' => r = .returned (.bool true) ∧ Below W.heap.size W w' := by
  obtain ⟨w1, hw1⟩ : ∃ w1, (W.alloc (stb fv tv ov s)).alloc (stb fv' tv' ov' s) = w1 := ⟨_, rfl⟩
  have E1 : Below W.heap.size W w1 := by rw [← hw1]; exact ext_alloc (ext_alloc (Below.refl _ _) _) _
  have g0 : w1.heap[W.heap.size]? = some (stb fv tv ov s) := by rw [← hw1]; exact blk_below (ext_alloc (Below.refl _ _) _) (heap_new _ _)
  have g1 : w1.heap[W.heap.size + 1]? = some (stb fv' tv' ov' s) := by rw [← hw1]; simpa using heap_new (W.alloc _) _
  have q1 : ∀ u, Below w1.heap.size w1 u → Calls Tryz.prog 35 #[ov, ov'] u _ := fun u hu => begins_same ov ov' s.out u (h.o.at (ext_trans E1 hu)) (h'.o.at (ext_trans E1 hu))
  have q2 : ∀ u, Below w1.heap.size w1 u → Calls Tryz.prog 35 #[ov', ov] u _ := fun u hu => begins_same ov' ov s.out u (h'.o.at (ext_trans E1 hu)) (h.o.at (ext_trans E1 hu))
  have hf := h.f
  have hf' := h'.f
  have ht := h.t
  have ht' := h'.t
  obtain ⟨oa, oc, rfl, _, _⟩ := h.o
  obtain ⟨oa', oc', rfl, _, _⟩ := h'.o
  obtain ⟨fa, fc, rfl, hfl, hfr⟩ := hf
  obtain ⟨fa', fc', rfl, _, hfr'⟩ := hf'
  obtain ⟨ta, tc, rfl, htl, htr⟩ := ht
  obtain ⟨ta', tc', rfl, _, htr'⟩ := ht'
  replace hfl := le_lit hfl
  replace htl := le_lit htl
  obtain ⟨n1, hn1⟩ : ∃ n, s.fr.length = n := ⟨_, rfl⟩
  obtain ⟨n2, hn2⟩ : ∃ n, s.tb.length = n := ⟨_, rfl⟩
  obtain ⟨n3, hn3⟩ : ∃ n, s.out.length = n := ⟨_, rfl⟩
  have hx : ∀ m, m < n1 → ∃ (b off b' off' : Nat) (x : Frm) (ra ra' : Option Addr) (rn rc rc' : Nat), fa = some ⟨b, off, none⟩ ∧ fa' = some ⟨b', off', none⟩ ∧ ∀ u, Below W.heap.size W u →
      (u.cell? ⟨b, off + m * 4, none⟩ = some (.int .i64 x.f) ∧ u.cell? ⟨b, off + m * 4 + 1, none⟩ = some (.int .i64 x.pc) ∧ u.cell? ⟨b, off + m * 4 + 2, none⟩ = some (.int .i64 x.d) ∧ u.cell? ⟨b, off + m * 4 + 3, none⟩ = some (.slice ra rn rc)) ∧
      (u.cell? ⟨b', off' + m * 4, none⟩ = some (.int .i64 x.f) ∧ u.cell? ⟨b', off' + m * 4 + 1, none⟩ = some (.int .i64 x.pc) ∧ u.cell? ⟨b', off' + m * 4 + 2, none⟩ = some (.int .i64 x.d) ∧ u.cell? ⟨b', off' + m * 4 + 3, none⟩ = some (.slice ra' rn rc')) ∧
      Calls Tryz.prog 36 #[.slice ra rn rc, .slice ra' rn rc'] u fun r w' => r = .returned (.bool true) ∧ Below u.heap.size u w' := fun m hm => by
    have hne : s.fr ≠ [] := by intro e; rw [e] at hn1; simp at hn1; omega
    obtain ⟨b, off, e, hb, hc⟩ := hfr hne
    obtain ⟨b', off', e', hb', hc'⟩ := hfr' hne
    have hxm : s.fr[m]? = some (s.fr[m]'(by omega)) := by simp
    obtain ⟨t0, t1, t2, rv, t3, hr⟩ := hc m _ hxm
    obtain ⟨t0', t1', t2', rv', t3', hr'⟩ := hc' m _ hxm
    have hv : ∀ u, Below W.heap.size W u → Calls Tryz.prog 36 #[rv, rv'] u _ := fun u hu => values_same rv rv' _ u (hr.at hu) (hr'.at hu)
    obtain ⟨ra, rc, rfl, _⟩ := hr
    obtain ⟨ra', rc', rfl, _⟩ := hr'
    exact ⟨b, off, b', off', _, ra, ra', _, rc, rc', e, e', fun u hu => ⟨⟨cellB hu t0, cellB hu t1, cellB hu t2, cellB hu t3⟩, ⟨cellB hu t0', cellB hu t1', cellB hu t2', cellB hu t3'⟩, hv u hu⟩⟩
  have hy : ∀ m, m < n2 → ∃ (b off b' off' : Nat) (ka ka' va va' : Option Addr) (kn kc kc' vn vc vc' : Nat), ta = some ⟨b, off, none⟩ ∧ ta' = some ⟨b', off', none⟩ ∧ (∀ u, Below W.heap.size W u →
      (u.cell? ⟨b, off + m * 2, none⟩ = some (.slice ka kn kc) ∧ u.cell? ⟨b, off + m * 2 + 1, none⟩ = some (.slice va vn vc)) ∧
      (u.cell? ⟨b', off' + m * 2, none⟩ = some (.slice ka' kn kc') ∧ u.cell? ⟨b', off' + m * 2 + 1, none⟩ = some (.slice va' vn vc'))) ∧
      (∀ u, Below W.heap.size W u → Calls Tryz.prog 36 #[.slice ka kn kc, .slice ka' kn kc'] u fun r w' => r = .returned (.bool true) ∧ Below u.heap.size u w') ∧
      (∀ u, Below W.heap.size W u → Calls Tryz.prog 36 #[.slice va vn vc, .slice va' vn vc'] u fun r w' => r = .returned (.bool true) ∧ Below u.heap.size u w') := fun m hm => by
    have hne : s.tb ≠ [] := by intro e; rw [e] at hn2; simp at hn2; omega
    obtain ⟨b, off, e, hb, hc⟩ := htr hne
    obtain ⟨b', off', e', hb', hc'⟩ := htr' hne
    have hxm : s.tb[m]? = some (s.tb[m]'(by omega)) := by simp
    obtain ⟨kv, vv, t0, t1, hk, hv⟩ := hc m _ hxm
    obtain ⟨kv', vv', t0', t1', hk', hv'⟩ := hc' m _ hxm
    have hkk : ∀ u, Below W.heap.size W u → Calls Tryz.prog 36 #[kv, kv'] u _ := fun u hu => values_same kv kv' _ u (hk.at hu) (hk'.at hu)
    have hvv : ∀ u, Below W.heap.size W u → Calls Tryz.prog 36 #[vv, vv'] u _ := fun u hu => values_same vv vv' _ u (hv.at hu) (hv'.at hu)
    obtain ⟨ka, kc, rfl, _⟩ := hk
    obtain ⟨ka', kc', rfl, _⟩ := hk'
    obtain ⟨va, vc, rfl, _⟩ := hv
    obtain ⟨va', vc', rfl, _⟩ := hv'
    exact ⟨b, off, b', off', ka, ka', va, va', _, kc, kc', _, vc, vc', e, e', fun u hu => ⟨⟨cellB hu t0, cellB hu t1⟩, ⟨cellB hu t0', cellB hu t1'⟩⟩, hkk, hvv⟩
  rw [hn1] at hfl
  rw [hn2] at htl
  rw [hn3] at q1 q2
  rw [hn1, hn2, hn3] at hw1 g0 g1 ⊢
  clear h h' hfr hfr' htr htr' hn1 hn2 hn3
  have hC : ∀ u, Below w1.heap.size w1 u → u.cell? ⟨W.heap.size, 0, none⟩ = some (.slice fa n1 fc) ∧ u.cell? ⟨W.heap.size, 1, none⟩ = some (.slice ta n2 tc) ∧ u.cell? ⟨W.heap.size + 1, 0, none⟩ = some (.slice fa' n1 fc') ∧ u.cell? ⟨W.heap.size + 1, 1, none⟩ = some (.slice ta' n2 tc') := fun u hu => ⟨cellB hu (cell_block g0 rfl), cellB hu (cell_block g0 rfl), cellB hu (cell_block g1 rfl), cellB hu (cell_block g1 rfl)⟩
  have hO : ∀ u, Below w1.heap.size w1 u → u.cell? ⟨W.heap.size, 2, none⟩ = some (.slice oa n3 oc) ∧ u.cell? ⟨W.heap.size + 1, 2, none⟩ = some (.slice oa' n3 oc') := fun u hu => ⟨cellB hu (cell_block g0 rfl), cellB hu (cell_block g1 rfl)⟩
  obtain ⟨a0, a1, a2, a3, a4, a5, a6, a7, a8⟩ := nine g0
  obtain ⟨b0, b1, b2, b3, b4, b5, b6, b7, b8⟩ := nine g1
  replace q1 : Hid _ := q1
  replace q2 : Hid _ := q2
  replace hx : Hid _ := hx
  replace hy : Hid _ := hy
  replace hC : Hid _ := hC
  replace hO : Hid _ := hO
  clear g0 g1
  go_enter Tryz.func14, Tryz.ntmps14
  go_wp2_with (go_at_call 35; refine (q1.out _ (Below.refl _ _)).mono ?_; rintro e u2 ⟨rfl, hb2⟩; refine Hid.out ?_)
  refine Lib.hid ?_
  obtain ⟨_, _⟩ := hO.out u2 hb2
  clear a0 a1 a2 a3 a4 a5 a6 a7 a8 b0 b1 b2 b3 b4 b5 b6 b7 b8 hw1
  go_wp2_with (go_at_call 35; refine (q2.out _ hb2).mono ?_; rintro e u3 ⟨rfl, hb3⟩; refine Hid.out ?_)
  refine Lib.hid ?_
  have hB0 := ext_trans hb2 hb3
  go_wp2
  go_loopw [5] (fun i wr => ∃ m : Nat, m ≤ n1 ∧ i = .int .i64 m ∧ Below w1.heap.size w1 wr) (fun i _ => n1 - (intOf i).toNat)
  case atStart => exact ⟨0, Nat.zero_le _, rfl, hB0⟩
  case round =>
    clear hb2 hb3 hB0
    obtain ⟨m, hm, rfl, hb⟩ := hrel
    obtain ⟨c0, c1, c2, c3⟩ := hC.out wr hb
    by_cases hlt : m < n1
    · obtain ⟨b, off, b', off', x, ra, ra', rn, rc, rc', rfl, rfl, hT⟩ := hx.out m hlt
      obtain ⟨v1, hv1⟩ : ∃ v, wr.alloc (.cells #[.int .i64 x.f, .int .i64 x.pc, .int .i64 x.d, .slice ra rn rc] 50) = v := ⟨_, rfl⟩
      have F1 : Below w1.heap.size w1 v1 := by rw [← hv1]; exact ext_alloc hb _
      have k1 : v1.heap[wr.heap.size]? = some (.cells #[.int .i64 x.f, .int .i64 x.pc, .int .i64 x.d, .slice ra rn rc] 50) := by rw [← hv1]; exact heap_new _ _
      obtain ⟨v2, hv2⟩ : ∃ v, v1.alloc (.cells #[.int .i64 x.f, .int .i64 x.pc, .int .i64 x.d, .slice ra' rn rc'] 50) = v := ⟨_, rfl⟩
      have F2 : Below w1.heap.size w1 v2 := by rw [← hv2]; exact ext_alloc F1 _
      have k2 : v2.heap[v1.heap.size]? = some (.cells #[.int .i64 x.f, .int .i64 x.pc, .int .i64 x.d, .slice ra' rn rc'] 50) := by rw [← hv2]; exact heap_new _ _
      have k1' : v2.heap[wr.heap.size]? = some (.cells #[.int .i64 x.f, .int .i64 x.pc, .int .i64 x.d, .slice ra rn rc] 50) := by rw [← hv2]; exact blk_below (ext_alloc (Below.refl _ _) _) k1
      obtain ⟨⟨t0, t1, t2, t3⟩, _, _⟩ := hT wr (ext_trans E1 hb)
      obtain ⟨_, ⟨t0', t1', t2', t3'⟩, _⟩ := hT v1 (ext_trans E1 F1)
      obtain ⟨_, _, hcall⟩ := hT v2 (ext_trans E1 F2)
      obtain ⟨d0, d1, d2, d3⟩ := hC.out v1 F1
      obtain ⟨f0, f1, f2, f3⟩ := four k1'
      obtain ⟨h0, h1, h2, h3⟩ := four k2
      clear hT k1 k2 k1'
      go_wp2_with (go_at_call 36; refine hcall.mono ?_; rintro e v3 ⟨rfl, hb3⟩)
      go_roundw
      case rel => exact ⟨m + 1, hlt, by simp, ext_trans F2 hb3⟩
      case measure => simp [intOf]; omega
    · obtain rfl : m = n1 := by omega
      go_wp2
      clear c0 c1 c2 c3
      go_loopw [8] (fun i wr => ∃ m : Nat, m ≤ n2 ∧ i = .int .i64 m ∧ Below w1.heap.size w1 wr) (fun i _ => n2 - (intOf i).toNat)
      case atStart => exact ⟨0, Nat.zero_le _, rfl, hb⟩
      case round =>
        clear hb
        obtain ⟨m, hm, rfl, hb⟩ := hrel
        obtain ⟨c0, c1, c2, c3⟩ := hC.out wr hb
        by_cases hlt : m < n2
        · obtain ⟨b, off, b', off', ka, ka', va, va', kn, kc, kc', vn, vc, vc', rfl, rfl, hT, hK, hV⟩ := hy.out m hlt
          replace hT : Hid _ := hT
          replace hK : Hid _ := hK
          replace hV : Hid _ := hV
          go_wp2
          refine wp_quiet (Below w1.heap.size w1) (by kernel_rfl) (by kernel_rfl) (ext_drew hb) ?_
          repeat (first
           | go_big_quiet_skip
           | (apply quiet_want
              · kernel_rfl
              · intro u hu
                obtain ⟨⟨_, _⟩, _, _⟩ := hT.out u (ext_trans E1 hu)
                obtain ⟨_, _, _, _⟩ := hC.out u hu
                go_simp
                first | (go_at_call_of 36 ka; refine (hK.out u (ext_trans E1 hu)).mono ?_; rintro e w2 ⟨rfl, hb2⟩; exact ⟨rfl, ext_trans hu hb2⟩) | (go_at_call_of 36 va; refine (hV.out u (ext_trans E1 hu)).mono ?_; rintro e w2 ⟨rfl, hb2⟩; exact ⟨rfl, ext_trans hu hb2⟩) | with_reducible rfl | skip
              simp only [Act.put, List.setIfInBounds_toArray, List.set_cons_zero, List.set_cons_succ]))
          refine wpQuiet_nil (fun w2 hb2 => ?_)
          go_wp2
          go_roundw
          case rel => exact ⟨m + 1, hlt, by simp, hb2⟩
          case measure => simp [intOf]; omega
        · obtain rfl : m = n2 := by omega
          go_wp2
          go_ret
          exact ⟨rfl, ext_trans E1 hb⟩
end Go.Proofs.YthdhgfpidhbdiaaGreatDoor
