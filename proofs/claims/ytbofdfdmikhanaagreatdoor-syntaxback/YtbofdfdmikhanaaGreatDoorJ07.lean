/- The program's reader: it gives up; it wants a word, a name. Of programs, in plain words: what is written of an expression is read as the same. -/
import Derived.Test.YtbofdfdmikhanaaGreatDoorJ06
import Derived.Test.YtbofdfdmikhanaaGreatDoorJ05
namespace Go.Proofs.YtbofdfdmikhanaaGreatDoor
open Go.RowKit
open Go

/-- What is thrown there. -/
def gv (ts : List Tok) (i : Nat) : Value := match ts[i]? with
  | some x => .iface 62 (.agg #[.int .i64 (x.a : Nat)])
  | none => .iface 64 (.agg #[])
theorem fieldTok (a b c : Value) (w : World) : (Instr.field 44 (.agg #[a, b, c]) 2).run Tryz.prog w = .ok c w := by
  simp [Instr.field, run_underlying Tryz.underlying44, go_sem, asAgg]
abbrev pan (v : Value) : List PanicEntry := [{ v := v, recovered := false }]
set_option maxRecDepth 20000 in
set_option maxHeartbeats 1000000 in
theorem giveUp_any (B : Nat) (ts : List Tok) (i : Nat) (w : World) (hR : Rd w B ts i) : Calls Tryz.prog 111 #[.pointer (some ⟨B, 0, none⟩)] w fun e w' => e = .panicked (pan (gv ts i)) ∧ Below w.heap.size w w' := by
  have hT := fun u (hb : Below w.heap.size w u) => token_any B ts i u (hR.below hb)
  unfold tokH at hT
  unfold gv
  obtain ⟨m1, m2, m3, m4, m5, b, cap, h1, ht, _, hcap⟩ := hR.box
  obtain ⟨c0, c1, c2, c3, c4, c5, c6, f6⟩ := rdC h1
  have hi := hR.le
  have hs := hR.short
  cases h : ts[i]? with
  | some x =>
    rw [h] at hT
    simp only at hT ⊢
    have hlt := (List.getElem?_eq_some_iff.1 h).1
    have hii : ¬ (i : Int) = (ts.length : Int) := by omega
    obtain ⟨n, hn⟩ : ∃ n, ts.length = n := ⟨_, rfl⟩
    rw [hn] at c5 hii
    clear h hR h1 ht hn
    have hF := fun v1 v2 v3 u => fieldTok v1 v2 v3 u
    go_enter Tryz.func111, Tryz.ntmps111
    go_wp2
    go_quiet (fail)
    go_wp2_with (go_at_call 112; refine (hT _ (drewN_below (Below.refl _ _))).mono ?_; rintro e w1 ⟨rfl, hb⟩)
    exact ⟨rfl, rfl, ext_trans (drewN_below (Below.refl _ _)) hb⟩
  | none =>
    rw [h] at hT
    simp only at hT ⊢
    have hlt : i = ts.length := by
      have := List.getElem?_eq_none_iff.1 h
      omega
    subst hlt
    obtain ⟨n, hn⟩ : ∃ n, ts.length = n := ⟨_, rfl⟩
    rw [hn] at c5 c6
    clear h hR h1 ht hn
    go_enter Tryz.func111, Tryz.ntmps111
    go_wp2
    go_quiet (fail)
    go_wp2
    exact ⟨rfl, rfl, drewN_below (Below.refl _ _)⟩

set_option maxRecDepth 20000 in
set_option maxHeartbeats 1000000 in
theorem wants_yes (B : Nat) (ts : List Tok) (i : Nat) (s : List UInt8) (h : wd ts i = s) (hi : i < ts.length) (c cap : Nat) (w : World) (hR : Rd w B ts i) (hS : w.heap[c]? = some (.cells #[sk s] 9)) : Calls Tryz.prog 93 #[.pointer (some ⟨B, 0, none⟩), .slice (some ⟨c, 0, none⟩) 1 cap] w fun e w' => e = .returned (.tuple #[]) ∧ Rd w' B ts (i + 1) ∧ Keeps (fun k => k = B) w w' := by
  have hT := takes_yes B ts i s h hi w hR
  have hc : w.cell? ⟨c, 0, none⟩ = some (sk s) := cell_block hS rfl
  clear hS
  go_enter Tryz.func93, Tryz.ntmps93
  go_wp2
  refine wp_loop_rounds 2 ?_
  rw [rounds_succ]
  go_wp2_with (go_at_call 96; refine hT.mono ?_; rintro e w1 ⟨rfl, hR1, hk1⟩)
  rw [rounds_succ]
  go_wp2
  go_end0
  exact ⟨rfl, hR1, hk1⟩
set_option maxRecDepth 20000 in
set_option maxHeartbeats 1000000 in
theorem wants_no (B : Nat) (ts : List Tok) (i : Nat) (s : List UInt8) (h : ¬ wd ts i = s) (c cap : Nat) (w : World) (hR : Rd w B ts i) (hS : w.heap[c]? = some (.cells #[sk s] 9)) : Calls Tryz.prog 93 #[.pointer (some ⟨B, 0, none⟩), .slice (some ⟨c, 0, none⟩) 1 cap] w fun e w' => e = .panicked (pan (gv ts i)) ∧ Below w.heap.size w w' := by
  have hT := takes_no B ts i s h w hR
  have hG := fun u (hb : Below w.heap.size w u) => giveUp_any B ts i u (hR.below hb)
  have hc : w.cell? ⟨c, 0, none⟩ = some (sk s) := cell_block hS rfl
  clear hS
  go_enter Tryz.func93, Tryz.ntmps93
  go_wp2
  refine wp_loop_rounds 2 ?_
  rw [rounds_succ]
  go_wp2_with (first | (go_at_call 96; refine hT.mono ?_; rintro e w1 ⟨rfl, hb⟩) | (go_at_call 111; refine (hG _ hb).mono ?_; rintro e w2 ⟨rfl, hb2⟩))
  exact ⟨rfl, rfl, ext_trans hb hb2⟩

theorem look_res {W : World} {m : Nat} (h : W.heap[m]? = some (mapObj sk reservedKV)) (s : List UInt8) : (Instr.lookup 45 (.map (some m)) (sk s) true).run Tryz.prog W = .ok (.tuple #[.agg #[], .bool (reserved.contains s)]) W := by
  have := run_look (P := Tryz.prog) (w := W) (T := 45) (K := 9) (E := 63) (kf := sk) (kv := reservedKV) (B := m) Tryz.underlying45 Tryz.underlying9 key_str h (by decide) (z := .agg #[]) (by kernel_rfl) s true
  rw [if_pos rfl] at this
  rw [this]
  have e : ∀ l : List (List UInt8), ((l.map fun s => (s, Value.agg #[])).lookup s).getD (.agg #[]) = .agg #[] ∧ ((l.map fun s => (s, Value.agg #[])).lookup s).isSome = l.contains s := fun l => by
    induction l with
    | nil => exact ⟨rfl, rfl⟩
    | cons a l ih =>
      simp only [List.map_cons, List.lookup_cons, List.contains_cons]
      by_cases hs : s = a
      · subst hs; simp
      · have : (s == a) = false := by simpa using hs
        rw [this]; simpa using ih
  rw [reservedKV, (e reserved).1, (e reserved).2]
theorem cellB {W W' : World} (hb : Below W.heap.size W W') {g o : Nat} {v : Value} (h : W.cell? ⟨g, o, none⟩ = some v) : W'.cell? ⟨g, o, none⟩ = some v := (hb.cell (p := ⟨g, o, none⟩) (World.block_lt_of_cell? _ _ h)).trans h
def LkR (m : Nat) (u : World) : Prop := u.heap[m]? = some (mapObj sk reservedKV)
theorem LkR.alloc {m : Nat} (u : World) (o : Obj) (h : LkR m u) : LkR m (u.alloc o) := block_alloc o h
theorem LkR.drew {m : Nat} (u : World) (h : LkR m u) : LkR m u.drew := h
theorem LkR.drewN {m : Nat} (u : World) (n : Nat) (h : LkR m u) : LkR m (u.drewN n) := h
theorem look_lk {m : Nat} {u : World} {s : List UInt8} (h : LkR m u) : (Instr.lookup 45 (.map (some m)) (sk s) true).run Tryz.prog u = .ok (.tuple #[.agg #[], .bool (reserved.contains s)]) u := look_res h s
/-- A name. -/
theorem tokH_some {ts : List Tok} {i : Nat} {x : Tok} (h : ts[i]? = some x) : tokH ts i = tokv x.k ⟨x.t.toArray⟩ (x.a : Nat) := by unfold tokH; rw [h]
theorem tokH_none {ts : List Tok} {i : Nat} (h : ts[i]? = none) : tokH ts i = tokv 0 ⟨#[]⟩ 0 := by unfold tokH; rw [h]
set_option maxRecDepth 20000 in
set_option maxHeartbeats 2000000 in
theorem nmR_no (B : Nat) (ts : List Tok) (i : Nat) (k : Int) (t : List UInt8) (a : Int) (hV : tokH ts i = tokv k ⟨t.toArray⟩ a) (h : reserved.contains t = true ∨ ¬ k = 1) (w : World) (hR : Rd w B ts i) : Calls Tryz.prog 94 #[.pointer (some ⟨B, 0, none⟩)] w fun e w' => e = .panicked (pan (gv ts i)) ∧ Below w.heap.size w w' := by
  have hT := token_any B ts i w hR
  rw [hV] at hT
  have hG := fun u (hb : Below w.heap.size w u) => giveUp_any B ts i u (hR.below hb)
  obtain ⟨V, hV2⟩ : ∃ V, gv ts i = V := ⟨_, rfl⟩
  rw [hV2] at hG ⊢
  clear hV hV2
  by_cases hr : reserved.contains t = true
  · skip
    go_enter Tryz.func94, Tryz.ntmps94
    go_wp2_with (go_at_call 112; refine hT.mono ?_; rintro e w1 ⟨rfl, hb⟩)
    have hR1 := (hR.below hb).below (ext_alloc (Below.refl _ _) (tbx k ⟨t.toArray⟩ a))
    obtain ⟨m1, m2, m3, m4, m5, b, cap, h1, _, hW, _⟩ := hR1.box
    obtain ⟨c0, c1, c2, c3, c4, c5, c6, f6⟩ := rdC h1
    obtain ⟨t0, t1⟩ := box44 (alloc_new w1 (tbx k ⟨t.toArray⟩ a))
    have hb1 := ext_alloc hb (tbx k ⟨t.toArray⟩ a)
    have hL := fun u h => look_lk (m := m1) (u := u) (s := t) h
    rw [hr] at hL
    have q1 := LkR.alloc (m := m1)
    have q2 := LkR.drew (m := m1)
    have q3 := LkR.drewN (m := m1)
    have q0 : LkR m1 (w1.alloc (tbx k ⟨t.toArray⟩ a)) := hW.h1
    have hz1 : ¬ w1.heap.size = (w1.alloc (tbx k ⟨t.toArray⟩ a)).heap.size := by simp
    have hz2 : ¬ B = (w1.alloc (tbx k ⟨t.toArray⟩ a)).heap.size := by have := hb.size; have := hR.lt; simp; omega
    obtain ⟨W1, hW1⟩ : ∃ W1, w1.alloc (tbx k ⟨t.toArray⟩ a) = W1 := ⟨_, rfl⟩
    simp only [tbx] at hW1 hz1 hz2 q0 t0 t1 c0 c1 c2 c3 c4 c5 c6 f6 hb1 hR1
    rw [hW1] at hz1 hz2 q0 t0 t1 c0 c6 f6 hb1 hR1 ⊢
    clear hW1 hW h1 hT hb hR c1 c2 c3 c4 c5
    go_region_held3 (fun u => u.cell? ⟨B, 0, none⟩ = some (.map (some m1)) ∧ u.cell? ⟨w1.heap.size, 1, none⟩ = some (sk t) ∧ LkR m1 u) (go_keep) (fail)
    all_goals
      have hb2 : Below W1.heap.size W1 (W1.alloc (Obj.cells #[] 63)).drew := (ext_alloc (Below.refl _ _) _).drew
      obtain ⟨W2, hW2⟩ : ∃ W2, (W1.alloc (Obj.cells #[] 63)).drew = W2 := ⟨_, rfl⟩
      rw [hW2] at hb2 ⊢
      have u0 := cellB hb2 t0
      have u1 := cellB hb2 t1
      clear hW2 t0 t1 c0 c6 f6 q0 q1 q2 q3 hL
      refine Lib.hid ?_
      go_wp2_with (go_at_call 111; refine (hG _ (ext_trans hb1 hb2)).mono ?_; rintro e w2 ⟨rfl, hb3⟩)
      exact ⟨rfl, rfl, ext_trans (ext_trans hb1 hb2) hb3⟩
  · rw [Bool.not_eq_true] at hr
    have hk : ¬ k = 1 := h.resolve_left (by rw [hr]; decide)
    go_enter Tryz.func94, Tryz.ntmps94
    go_wp2_with (go_at_call 112; refine hT.mono ?_; rintro e w1 ⟨rfl, hb⟩)
    have hR1 := (hR.below hb).below (ext_alloc (Below.refl _ _) (tbx k ⟨t.toArray⟩ a))
    obtain ⟨m1, m2, m3, m4, m5, b, cap, h1, _, hW, _⟩ := hR1.box
    obtain ⟨c0, c1, c2, c3, c4, c5, c6, f6⟩ := rdC h1
    obtain ⟨t0, t1⟩ := box44 (alloc_new w1 (tbx k ⟨t.toArray⟩ a))
    have hb1 := ext_alloc hb (tbx k ⟨t.toArray⟩ a)
    have hL := fun u h => look_lk (m := m1) (u := u) (s := t) h
    rw [hr] at hL
    have q1 := LkR.alloc (m := m1)
    have q2 := LkR.drew (m := m1)
    have q3 := LkR.drewN (m := m1)
    have q0 : LkR m1 (w1.alloc (tbx k ⟨t.toArray⟩ a)) := hW.h1
    have hz1 : ¬ w1.heap.size = (w1.alloc (tbx k ⟨t.toArray⟩ a)).heap.size := by simp
    have hz2 : ¬ B = (w1.alloc (tbx k ⟨t.toArray⟩ a)).heap.size := by have := hb.size; have := hR.lt; simp; omega
    obtain ⟨W1, hW1⟩ : ∃ W1, w1.alloc (tbx k ⟨t.toArray⟩ a) = W1 := ⟨_, rfl⟩
    simp only [tbx] at hW1 hz1 hz2 q0 t0 t1 c0 c1 c2 c3 c4 c5 c6 f6 hb1 hR1
    rw [hW1] at hz1 hz2 q0 t0 t1 c0 c6 f6 hb1 hR1 ⊢
    clear hW1 hW h1 hT hb hR c1 c2 c3 c4 c5
    go_region_held3 (fun u => u.cell? ⟨B, 0, none⟩ = some (.map (some m1)) ∧ u.cell? ⟨w1.heap.size, 1, none⟩ = some (sk t) ∧ LkR m1 u) (go_keep) (fail)
    all_goals
      have hb2 : Below W1.heap.size W1 (W1.alloc (Obj.cells #[] 63)).drew := (ext_alloc (Below.refl _ _) _).drew
      obtain ⟨W2, hW2⟩ : ∃ W2, (W1.alloc (Obj.cells #[] 63)).drew = W2 := ⟨_, rfl⟩
      rw [hW2] at hb2 ⊢
      have u0 := cellB hb2 t0
      have u1 := cellB hb2 t1
      clear hW2 t0 t1 c0 c6 f6 q0 q1 q2 q3 hL
      refine Lib.hid ?_
      go_wp2_with (go_at_call 111; refine (hG _ (ext_trans hb1 hb2)).mono ?_; rintro e w2 ⟨rfl, hb3⟩)
      exact ⟨rfl, rfl, ext_trans (ext_trans hb1 hb2) hb3⟩
set_option maxRecDepth 20000 in
set_option maxHeartbeats 2000000 in
theorem nmR_yes (B : Nat) (ts : List Tok) (i : Nat) (t : List UInt8) (a : Int) (hV : tokH ts i = tokv 1 ⟨t.toArray⟩ a) (hr : reserved.contains t = false) (hi : i < ts.length) (w : World) (hR : Rd w B ts i) : Calls Tryz.prog 94 #[.pointer (some ⟨B, 0, none⟩)] w fun e w' => e = .returned (sk t) ∧ Rd w' B ts (i + 1) ∧ Keeps (fun k => k = B) w w' := by
  have hT := token_any B ts i w hR
  rw [hV] at hT
  have hs := hR.short
  have hBw := hR.lt
  clear hV
  have hgo : True := trivial
  · skip
    go_enter Tryz.func94, Tryz.ntmps94
    go_wp2_with (go_at_call 112; refine hT.mono ?_; rintro e w1 ⟨rfl, hb⟩)
    have hR1 := (hR.below hb).below (ext_alloc (Below.refl _ _) (tbx 1 ⟨t.toArray⟩ a))
    obtain ⟨m1, m2, m3, m4, m5, b, cap, h1, _, hW, _⟩ := hR1.box
    obtain ⟨c0, c1, c2, c3, c4, c5, c6, f6⟩ := rdC h1
    obtain ⟨t0, t1⟩ := box44 (alloc_new w1 (tbx 1 ⟨t.toArray⟩ a))
    have hb1 := ext_alloc hb (tbx 1 ⟨t.toArray⟩ a)
    have hL := fun u h => look_lk (m := m1) (u := u) (s := t) h
    rw [hr] at hL
    have q1 := LkR.alloc (m := m1)
    have q2 := LkR.drew (m := m1)
    have q3 := LkR.drewN (m := m1)
    have q0 : LkR m1 (w1.alloc (tbx 1 ⟨t.toArray⟩ a)) := hW.h1
    have hz1 : ¬ w1.heap.size = (w1.alloc (tbx 1 ⟨t.toArray⟩ a)).heap.size := by simp
    have hz2 : ¬ B = (w1.alloc (tbx 1 ⟨t.toArray⟩ a)).heap.size := by have := hb.size; have := hR.lt; simp; omega
    obtain ⟨W1, hW1⟩ : ∃ W1, w1.alloc (tbx 1 ⟨t.toArray⟩ a) = W1 := ⟨_, rfl⟩
    simp only [tbx] at hW1 hz1 hz2 q0 t0 t1 c0 c1 c2 c3 c4 c5 c6 f6 hb1 hR1
    rw [hW1] at hz1 hz2 q0 t0 t1 c0 c6 f6 hb1 hR1 ⊢
    clear hW1 hW h1 hT hb hR c1 c2 c3 c4 c5
    go_region_held3 (fun u => u.cell? ⟨B, 0, none⟩ = some (.map (some m1)) ∧ u.cell? ⟨w1.heap.size, 1, none⟩ = some (sk t) ∧ LkR m1 u) (go_keep) (fail)
    all_goals
      have hb2 : Below W1.heap.size W1 (W1.alloc (Obj.cells #[] 63)).drew := (ext_alloc (Below.refl _ _) _).drew
      obtain ⟨W2, hW2⟩ : ∃ W2, (W1.alloc (Obj.cells #[] 63)).drew = W2 := ⟨_, rfl⟩
      rw [hW2] at hb2 ⊢
      have u0 := cellB hb2 t0
      have u1 := cellB hb2 t1
      clear hW2 t0 t1 c0 c6 f6 q0 q1 q2 q3 hL
      have hR2 := hR1.below hb2
      obtain ⟨n1, n2, n3, n4, n5, b', cap', h2, _⟩ := hR2.box
      obtain ⟨_, _, _, _, _, _, d6, e6⟩ := rdC h2
      clear h2
      refine Lib.hid ?_
      go_wp2
      go_ret
      exact ⟨rfl, hR2.go (j := i + 1) hi, (Keeps.of_below (ext_trans hb1 hb2)).set B 6 _ (fun _ => rfl)⟩
end Go.Proofs.YtbofdfdmikhanaaGreatDoor
namespace Go.Proofs.YtbofdfdmikhanaaGreatDoor
open Go

theorem numV_snoc (l : List UInt8) (c : UInt8) : numV (l ++ [c]) = numV l * 10 + (c.toNat - 48) := by simp [numV]
theorem numV_dec : ∀ (m u : Nat), u < m → numV (Lib.decDigits u) = u
  | 0, u, h => by omega
  | m + 1, u, h => by
    rw [Lib.decDigits]
    by_cases hu : u < 10
    · rw [dif_pos hu]
      simp [numV]
      omega
    · rw [dif_neg hu, numV_snoc, numV_dec m (u / 10) (by omega)]
      have : (UInt8.ofNat (48 + u % 10)).toNat = 48 + u % 10 := UInt8.toNat_ofNat_of_lt' (by show 48 + u % 10 < 256; omega)
      rw [this]
      omega

theorem op_mem {o : Int} {s : List UInt8} {k : Nat} (h : opOf o = some (s, k)) : (s, o, k) ∈ opsL := by
  unfold opOf at h
  cases hf : opsL.find? (fun p => p.2.1 == o) with
  | none => rw [hf] at h; cases h
  | some p =>
    rw [hf] at h
    obtain ⟨s', o', k'⟩ := p
    have h1 := List.mem_of_find?_eq_some hf
    have h2 := List.find?_some hf
    simp at h h2
    obtain ⟨rfl, rfl⟩ := h
    subst h2
    exact h1
theorem op_facts {s : List UInt8} {o : Int} {k : Nat} (h : (s, o, k) ∈ opsL) : opAt s = some (o, k) ∧ s ≠ S.lb ∧ s ≠ S.lp ∧ k ≤ 5 := by
  have : ∀ p ∈ opsL, opAt p.1 = some p.2 ∧ p.1 ≠ S.lb ∧ p.1 ≠ S.lp ∧ p.2.2 ≤ 5 := by decide
  exact this _ h
theorem tx_op {o : Int} {s : List UInt8} {k : Nat} (h : opOf o = some (s, k)) (l : List PT) : tx (opT o :: l) = s := by
  unfold opT
  rw [h]
  simp only
  by_cases c : o = 20 ∨ o = 21
  · rw [if_pos c]; exact tx_w s l
  · rw [if_neg c]; exact tx_s s l
theorem binds_le (x : Nd) : bindsN x ≤ 7 := by
  unfold bindsN
  split
  · cases h : opOf x.n with
    | none => simp
    | some p => have := (op_facts (op_mem (s := p.1) (k := p.2) h)).2.2.2; simp; omega
  · split <;> omega

theorem name_no {t : List UInt8} (h : nameB t = true) {s : List UInt8} (hs : s ∈ reserved ∨ (s.head?.map letB).getD false = false) : t ≠ s := by
  rintro rfl
  simp only [nameB, Bool.and_eq_true] at h
  rcases hs with hs | hs
  · have h2 := h.2
    simp only [Bool.not_eq_true'] at h2
    rw [List.contains_eq_mem] at h2
    simp at h2
    exact h2 hs
  · have := h.1.1.2
    rw [hs] at this
    cases this

/-- From what binds most on down. -/
theorem Qdown {y : Nd} {l rest : List PT} (h : Q 1 nil0 0 l (yes y rest)) : ∀ (d a : Nat), a + d = 6 → lvB a rest → Q 0 nil0 a l (yes y rest)
  | 0, a, ha, _ => Q0u (by omega) h
  | d + 1, a, ha, hl => Q0 (by omega) (Qdown h d (a + 1) (by omega) (fun o k e => by have := hl o k e; omega)) (Q2stop (fun o k e => by have := hl o k e; omega))

/-- What is to be shown of an expression. -/
structure Re (x : Nd) : Prop where
  h : ∀ rest, tx (showT x ++ rest) ≠ S.rp
  c : bindsN x = 7 → ∀ rest r, Q 4 x 0 rest r → Q 1 nil0 0 (showT x ++ rest) r
  b : 6 ≤ bindsN x → ∀ rest, stops rest → Q 1 nil0 0 (showT x ++ rest) (yes x rest)
  a2 : ∀ a, a ≤ 6 → a ≤ bindsN x → ∀ rest, stops rest → lvB a rest → Q 0 nil0 a (showT x ++ rest) (yes x rest)
  a1 : ∀ a, a ≤ 5 → a ≠ 2 → a ≤ bindsN x → ∀ rest r, stops rest → lvB (a + 1) rest → Q 2 x a rest r → Q 0 nil0 a (showT x ++ rest) r

theorem stops_s {s : List UInt8} {l : List PT} (h1 : s ≠ S.lb) (h2 : s ≠ S.lp) : stops (st s :: l) := by unfold stops; rw [tx_s]; exact ⟨h1, h2⟩
theorem stops_w {s : List UInt8} {l : List PT} (h1 : s ≠ S.lb) (h2 : s ≠ S.lp) : stops (wt s :: l) := by unfold stops; rw [tx_w]; exact ⟨h1, h2⟩
theorem lvB_s {s : List UInt8} {l : List PT} (a : Nat) (h : opAt s = none) : lvB a (st s :: l) := fun o k e => by rw [tx_s, h] at e; cases e
theorem lvB_w {s : List UInt8} {l : List PT} (a : Nat) (h : opAt s = none) : lvB a (wt s :: l) := fun o k e => by rw [tx_w, h] at e; cases e

theorem Re.whole {y : Nd} (h : Re y) {rest : List PT} (h1 : stops rest) (h2 : lvB 0 rest) : Q 0 nil0 0 (showT y ++ rest) (yes y rest) := h.a2 0 (by omega) (Nat.zero_le _) rest h1 h2
theorem Re.par {y : Nd} (h : Re y) {rest : List PT} {r : List PT ⊕ (Nd × List PT)} (h4 : Q 4 y 0 rest r) : Q 1 nil0 0 (parT (showT y) ++ rest) r := by
  have e : parT (showT y) ++ rest = st S.lp :: (showT y ++ (st S.rp :: rest)) := by simp [parT]
  rw [e]
  refine Q1first (by rw [tx_s]; decide) (by rw [tx_s]; decide) (by rw [tx_s]; decide) (Q3par (h.whole (stops_s (by decide) (by decide)) (lvB_s 0 (by decide)))) h4
theorem Re.t7 {y : Nd} (h : Re y) {rest : List PT} {r : List PT ⊕ (Nd × List PT)} (h4 : Q 4 y 0 rest r) : Q 1 nil0 0 (atT 7 (info y) ++ rest) r := by
  unfold atT info
  simp only
  by_cases c : bindsN y < 7
  · rw [if_pos c]; exact h.par h4
  · rw [if_neg c]; exact h.c (by have := binds_le y; omega) rest r h4
theorem Re.t6 {y : Nd} (h : Re y) {rest : List PT} (h1 : stops rest) : Q 1 nil0 0 (atT 6 (info y) ++ rest) (yes y rest) := by
  unfold atT info
  simp only
  by_cases c : bindsN y < 6
  · rw [if_pos c]; exact h.par (Q4stop h1)
  · rw [if_neg c]; exact h.b (by omega) rest h1
theorem Re.t2 {y : Nd} (h : Re y) {a least : Nat} (ha : a ≤ 6) (hl : a ≤ least) {rest : List PT} (h1 : stops rest) (h2 : lvB a rest) : Q 0 nil0 a (atT least (info y) ++ rest) (yes y rest) := by
  unfold atT info
  simp only
  by_cases c : bindsN y < least
  · rw [if_pos c]; exact Qdown (h.par (Q4stop h1)) (6 - a) a (by omega) h2
  · rw [if_neg c]; exact h.a2 a ha (by omega) rest h1 h2
theorem Re.t1 {y : Nd} (h : Re y) {a least : Nat} (ha : a ≤ 5) (ha2 : a ≠ 2) (hl : a ≤ least) {rest : List PT} {r : List PT ⊕ (Nd × List PT)} (h1 : stops rest) (h2 : lvB (a + 1) rest) (h3 : Q 2 y a rest r) : Q 0 nil0 a (atT least (info y) ++ rest) r := by
  unfold atT info
  simp only
  by_cases c : bindsN y < least
  · rw [if_pos c]; exact Q0 (by omega) (Qdown (h.par (Q4stop h1)) (6 - (a + 1)) (a + 1) (by omega) h2) h3
  · rw [if_neg c]; exact h.a1 a ha ha2 (by omega) rest r h1 h2 h3

theorem head_round (ks : List Nd) (hks : ks ≠ []) : ∃ k l, ks = k :: l := by
  cases ks with
  | nil => exact absurd rfl hks
  | cons k l => exact ⟨k, l, rfl⟩

theorem args_read : ∀ (ks acc : List Nd) (rest : List PT), ks ≠ [] → (∀ y ∈ ks, Re y) → Q 6 (nd 21 acc) 0 (commaT (ks.map info) ++ st S.rp :: rest) (yes (nd 21 (acc ++ ks)) rest)
  | [], _, _, h, _ => absurd rfl h
  | [y], acc, rest, _, h => Q6last ((h y (by simp)).whole (stops_s (by decide) (by decide)) (lvB_s 0 (by decide)))
  | y :: z :: l, acc, rest, _, h => by
    have ih := args_read (z :: l) (acc ++ [y]) rest (by simp) (fun q hq => h q (by simp at hq ⊢; exact .inr hq))
    have e : commaT ((y :: z :: l).map info) ++ st S.rp :: rest = showT y ++ st S.cm :: (commaT ((z :: l).map info) ++ st S.rp :: rest) := by simp [commaT, info]
    rw [e, show acc ++ y :: z :: l = acc ++ [y] ++ z :: l by simp]
    exact Q6more ((h y (by simp)).whole (stops_s (by decide) (by decide)) (lvB_s 0 (by decide))) ih

theorem Re.make {x : Nd} (hh : ∀ rest, tx (showT x ++ rest) ≠ S.rp) (hc : bindsN x = 7 → ∀ rest r, Q 4 x 0 rest r → Q 1 nil0 0 (showT x ++ rest) r)
    (hb : bindsN x = 6 → ∀ rest, stops rest → Q 1 nil0 0 (showT x ++ rest) (yes x rest))
    (h2 : bindsN x = 2 → ∀ rest, stops rest → lvB 2 rest → Q 0 nil0 2 (showT x ++ rest) (yes x rest))
    (h1 : bindsN x ≤ 5 → bindsN x ≠ 2 → ∀ rest r, stops rest → lvB (bindsN x + 1) rest → Q 2 x (bindsN x) rest r → Q 0 nil0 (bindsN x) (showT x ++ rest) r) : Re x := by
  have b : 6 ≤ bindsN x → ∀ rest, stops rest → Q 1 nil0 0 (showT x ++ rest) (yes x rest) := fun h rest hs => by
    by_cases e : bindsN x = 6
    · exact hb e rest hs
    · exact hc (by have := binds_le x; omega) rest _ (Q4stop hs)
  have low : bindsN x ≤ 5 → ∀ d a, a + d = bindsN x → ∀ rest, stops rest → lvB a rest → Q 0 nil0 a (showT x ++ rest) (yes x rest) := fun h d => by
    induction d with
    | zero =>
      intro a ha rest hs hl
      obtain rfl : a = bindsN x := by omega
      by_cases e : bindsN x = 2
      · have := h2 e rest hs (by rw [← e]; exact hl)
        rw [e]; exact this
      · exact h1 h e rest _ hs (fun o k q => by have := hl o k q; omega) (Q2stop (fun o k q => by have := hl o k q; omega))
    | succ d ih =>
      intro a ha rest hs hl
      exact Q0 (by omega) (ih (a + 1) (by omega) rest hs (fun o k q => by have := hl o k q; omega)) (Q2stop (fun o k q => by have := hl o k q; omega))
  have a2 : ∀ a, a ≤ 6 → a ≤ bindsN x → ∀ rest, stops rest → lvB a rest → Q 0 nil0 a (showT x ++ rest) (yes x rest) := fun a ha hx rest hs hl => by
    by_cases c : 6 ≤ bindsN x
    · exact Qdown (b c rest hs) (6 - a) a (by omega) hl
    · exact low (by omega) (bindsN x - a) a (by omega) rest hs hl
  refine ⟨hh, hc, b, a2, fun a ha hne hx rest r hs hl hr => ?_⟩
  by_cases e : a = bindsN x
  · subst e; exact h1 ha hne rest r hs hl hr
  · exact Q0 (by omega) (a2 (a + 1) (by omega) (by omega) rest hs hl) hr

theorem tx_num (s : List UInt8) (l : List PT) : tx ((2, s) :: l) = [] := by simp [tx]
theorem tx_txt (s : List UInt8) (l : List PT) : tx ((3, s) :: l) = [] := by simp [tx]
theorem tx_app {a : List PT} (l m : List PT) (h : a ≠ []) : tx (a ++ l) = tx (a ++ m) := by
  cases a with
  | nil => exact absurd rfl h
  | cons p q => rfl
theorem at_head {y : Nd} (h : Re y) (least : Nat) (rest : List PT) : tx (atT least (info y) ++ rest) ≠ S.rp := by
  unfold atT info
  simp only
  split
  · simp only [parT, List.cons_append]; rw [tx_s]; decide
  · exact h.h rest

/-- Of one token alone. -/
theorem Re.atom {x : Nd} (p : PT) (hx : showT x = [p]) (hb : bindsN x = 7) (h1 : ∀ l, tx (p :: l) ≠ S.mi ∧ tx (p :: l) ≠ W.not_ ∧ tx (p :: l) ≠ S.hs ∧ tx (p :: l) ≠ S.rp) (h3 : ∀ rest, Q 3 nil0 0 (p :: rest) (yes x rest)) : Re x := by
  refine Re.make (fun rest => ?_) (fun _ rest r hr => ?_) (fun h => by omega) (fun h => by omega) (fun h => by omega)
  · rw [hx]; exact (h1 _).2.2.2
  · rw [hx]
    exact Q1first (h1 _).1 (h1 _).2.1 (h1 _).2.2.1 (h3 rest) hr

theorem binds7 {k : Int} (t : List UInt8) (n : Int) (kids : List Nd) (h1 : k ≠ 22) (h2 : k ≠ 23) (h3 : k ≠ 24) (h4 : k ≠ 25) : bindsN ⟨k, t, n, kids⟩ = 7 := by
  unfold bindsN
  simp only
  rw [if_neg h1, if_neg (by omega)]
theorem Q3word {s : List UInt8} {k : Int} (h : (s = W.nil_ ∧ k = 15) ∨ (s = W.true_ ∧ k = 16) ∨ (s = W.false_ ∧ k = 17)) (rest : List PT) : Q 3 nil0 0 (wt s :: rest) (yes (nd k []) rest) := by
  refine ⟨1, ?_⟩
  rcases h with ⟨rfl, rfl⟩ | ⟨rfl, rfl⟩ | ⟨rfl, rfl⟩ <;> rfl
theorem Q3name {t : List UInt8} (h : nameB t = true) (rest : List PT) : Q 3 nil0 0 (wt t :: rest) (yes ⟨18, t, 0, []⟩ rest) := by
  refine ⟨1, ?_⟩
  rw [P]
  simp only
  rw [tx_w, if_neg (by decide), if_neg (by decide), if_neg (name_no h (.inr (by decide))), if_neg (name_no h (.inl (by decide))), if_neg (name_no h (.inl (by decide))), if_neg (name_no h (.inl (by decide))), if_neg (name_no h (.inr (by decide))), if_neg (name_no h (.inl (by decide)))]
  unfold needName
  rw [tx_w, if_pos h]
  rfl

end Go.Proofs.YtbofdfdmikhanaaGreatDoor
