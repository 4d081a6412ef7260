/- The program's reader: signs ahead. The program's reader: no sign ahead; rows. The program's reader: rows of operations. -/
import Derived.Test.YtbofdfdmikhanaaGreatDoorJ19
import Derived.Deep.RegionHeld2
import Derived.Deep.DeepCutAuto
namespace Go.Proofs.YtbofdfdmikhanaaGreatDoor
open Go.RowKit
open Go

/-- A map lies there. -/
def LkM (m : Nat) (o : Obj) (u : World) : Prop := u.heap[m]? = some o
theorem LkM.alloc {m : Nat} {o : Obj} (u : World) (o' : Obj) (h : LkM m o u) : LkM m o (u.alloc o') := block_alloc o' h
theorem LkM.drew {m : Nat} {o : Obj} (u : World) (h : LkM m o u) : LkM m o u.drew := h
theorem LkM.drewN {m : Nat} {o : Obj} (u : World) (n : Nat) (h : LkM m o u) : LkM m o (u.drewN n) := h
theorem LkM.below {m : Nat} {o : Obj} {u w' : World} (h : LkM m o u) (hb : Below u.heap.size u w') : LkM m o w' := block_below hb h
theorem look_int {u : World} {m : Nat} {kv : List (List UInt8 × Value)} (hd : (kv.map (·.1)).Nodup) (h : LkM m (mapObj sk kv) u) (s : List UInt8) : (Instr.lookup 48 (.map (some m)) (sk s) true).run Tryz.prog u = .ok (.tuple #[(kv.lookup s).getD (ik 0), .bool (kv.lookup s).isSome]) u := by
  have := run_look (P := Tryz.prog) (w := u) (T := 48) (K := 9) (E := 3) (kf := sk) (kv := kv) (B := m) Tryz.underlying48 Tryz.underlying9 key_str h hd (z := ik 0) (by kernel_rfl) s true
  rw [if_pos rfl] at this
  exact this
def SgnC (f : Nat) : Prop := ∀ (r : PRes) (B : Nat) (ts : List Tok) (i : Nat) (w : World), Ctx w B ts i → P f 1 nil0 0 (rest ts i) = some r → Calls Tryz.prog 169 #[.pointer (some ⟨B, 0, none⟩)] w (PAns no w B ts r)
theorem res169 {tm : Array Value} {W : World} {B : Nat} {a b c d : Value} (h : tm[2]?.getD undef = .pointer (some ⟨B, 0, none⟩)) (hx : W.heap[B]? = some (.cells #[a, b, c, d] 24)) : (results Tryz.f169 tm).run Tryz.prog W = .ok (.agg #[a, b, c, d]) W := by
  obtain ⟨c0, c1, c2, c3, _, _, _, _⟩ := in4 hx
  simp [results, Tryz.results169, go_sem, h, c0, c1, c2, c3]
theorem pl_mi : plainS S.mi := ⟨_, _, rfl, rfl⟩
theorem pl_hs : plainS S.hs := ⟨_, _, rfl, rfl⟩
theorem pl_not : plainS W.not_ := ⟨_, _, rfl, rfl⟩
/-- A node of one kid, in the answer's box. -/
theorem close_one {w : World} {B : Nat} {ts : List Tok} {x : Nd} {b : Option Addr} {cap : Nat} {l : List PT} {j : Nat} {W : World} {t : Nat} {a0 a1 a2 a3 : Value} (k : Int) (hj : rest ts j = l) (hN : NdV (fun g => w.heap.size ≤ g ∧ g ≠ t) W x (ndv x b cap)) (hR : Rd W B ts j) (hk : Keeps (fun k => k = B) w W) (ht : w.heap.size ≤ t) (hB : B < w.heap.size) (g : W.heap[t]? = some (.cells #[a0, a1, a2, a3] 24)) :
    PAns no w B ts (.inr (nd k [x], l)) (.returned (ndv (nd k [x]) (some ⟨W.heap.size, 0, none⟩) 1)) (put4 (W.alloc (nbx x b cap)) t (.int .i64 k) (sk []) (.int .i64 0) (.slice (some ⟨W.heap.size, 0, none⟩) 1 1)) := by
  have hlt := block_lt g
  have hsz := hk.size
  obtain ⟨h1, h2, h3⟩ := one_box (D := fun g => w.heap.size ≤ g ∧ g ≠ t) k 0 hN (fun g hg => hg.2) ⟨hsz, by omega⟩ g rfl
  refine ⟨j, _, 1, hj, rfl, (h1.node k [] 0).weak (fun g hg _ => .inr hg.1), hR.keep h3 (fun g hg => by omega), hk.then h3 (fun q hq e => by omega)⟩
set_option maxRecDepth 20000 in
set_option maxHeartbeats 4000000 in
theorem sgn_sign (f : Nat) (s : List UInt8) (hs : plainS s) (k : Int) (hkv : signsKV.lookup s = some (ik k)) (hG : SgnC f) (r : PRes) (B : Nat) (ts : List Tok) (i : Nat) (w : World) (hC : Ctx w B ts i) (htx : tx (rest ts i) = s) (hP : (P f 1 nil0 0 (rest ts i).tail).on (fun x l => .ok (nd k [x]) l) = some r) : Calls Tryz.prog 169 #[.pointer (some ⟨B, 0, none⟩)] w (PAns no w B ts r) := by
  rw [rest_tail] at hP
  obtain ⟨r0, hr0, hr1⟩ := on_some hP
  have hEE := fun u h => hG r0 B ts (i + 1) u h hr0
  have h2 := alloc_new w zbx
  have hBw := hC.R.lt
  have hlt := tx_lt htx (plain_ne hs)
  have hsh := hC.R.short
  have hb0 : Below w.heap.size w (w.alloc zbx) := ext_alloc (Below.refl _ _) _
  obtain ⟨m1, m2, m3, m4, m5, b, cap, h1, _, hW, _⟩ := (hC.R.below hb0).box
  obtain ⟨c0, c1, c2, c3, c4, c5, c6, f6⟩ := rdC h1
  have hWd := fun u (hb : Below w.heap.size w u) => word_any B ts i u (hC.R.below hb)
  rw [(hC.is hs).2 htx] at hWd
  have q0 : LkM m4 (mapObj sk signsKV) (w.alloc zbx) := hW.h4
  have hL := fun u h => look_int (u := u) (m := m4) (kv := signsKV) (by decide) h s
  rw [hkv] at hL
  simp only [Option.getD_some, Option.isSome_some] at hL
  replace hr1 : Hid _ := hr1
  replace h1 : Hid _ := h1
  clear hP hr0 hG hkv hW
  go_enter Tryz.func169, Tryz.ntmps169
  go_wp2
  have q1 := LkM.drew (m := m4) (o := mapObj sk signsKV)
  go_region_with ((go_at_call 114; refine (hWd _ (hb0.drew)).mono ?_; rintro e w1 ⟨rfl, hb1⟩; have hR1 := (hC.R.below (hb0.drew)).below hb1; have q3 := LkM.below (LkM.drew _ q0) hb1; have c3 := cellB (W := (w.alloc zbx).drew) hb1 c3))
  all_goals
    obtain ⟨n1, n2, n3, n4, n5, b', cap', h1', _⟩ := hR1.box
    obtain ⟨d0, d1, d2, d3, d4, d5, d6, e6⟩ := rdC h1'
    have g2 := block_below hb1 (W := (w.alloc zbx).drew) h2
    have hk1 : Keeps (fun k => k = B) w (w1.setCell ⟨B, 6, none⟩ (.int .i64 ((i : Nat) + 1))) := (Keeps.of_below (ext_trans (hb0.drew) hb1)).set B 6 _ (fun _ => rfl)
    have hR2 := hR1.go (j := i + 1) hlt
    have g2' : (w1.setCell ⟨B, 6, none⟩ (.int .i64 ((i : Nat) + 1))).heap[w.heap.size]? = some zbx := (set1_other _ _ (by omega)).trans g2
    obtain ⟨W2, hW2⟩ : ∃ W2, w1.setCell ⟨B, 6, none⟩ (.int .i64 ((i : Nat) + 1)) = W2 := ⟨_, rfl⟩
    rw [hW2] at hk1 g2'
    have hR2 : Rd W2 B ts (i + 1) := hW2 ▸ hR2
    clear hL q0 q1 q3 c0 c1 c2 c3 c4 c5 c6 f6 hR1 h1' g2 hWd
    go_wp2_with (go_at_call 169; refine (hEE _ (hC.on hR2)).mono ?_; intro e w3 hA; rcases r0 with l1 | ⟨n1, l1⟩; (obtain ⟨j, hj, hle, rfl, hk3⟩ := hA; rcases hr1.out with ⟨l, e1, e2⟩ | ⟨n, l, e1, _⟩; (cases e1; subst e2; exact ⟨rfl, close_pan hj hle (hk1.trans hk3)⟩); cases e1); obtain ⟨j, b1, cap1, hj, rfl, hN3, hR3, hk3⟩ := hA; have g3 := hk3.box g2' (by omega); obtain ⟨u0, u1, u2, u3, v0, v1, v2, v3⟩ := in4a g3)
    rcases hr1.out with ⟨l, e1, _⟩ | ⟨n, l, e1, hr2⟩
    · cases e1
    cases e1
    obtain rfl := Option.some.inj hr2
    refine bodyPost_ret (res169 rfl (put4_same _ _ _ _ (block_alloc _ g3))) rfl ?_
    exact close_one k hj (hN3.weak (fun g hg _ => by have := hk1.size; have := block_lt g2'; rcases hg with hg | hg; exact hg.elim; exact ⟨by omega, by omega⟩)) hR3 (hk1.trans hk3) (Nat.le_refl _) hBw g3
end Go.Proofs.YtbofdfdmikhanaaGreatDoor
namespace Go.Proofs.YtbofdfdmikhanaaGreatDoor
open Go.RowKit
open Go

set_option maxRecDepth 20000 in
set_option maxHeartbeats 4000000 in
theorem sgn_none (r : PRes) (B : Nat) (ts : List Tok) (i : Nat) (w : World) (hC : Ctx w B ts i) (hn : signsKV.lookup (wd ts i) = none) (hX : ∀ u, Ctx u B ts i → Calls Tryz.prog 175 #[.pointer (some ⟨B, 0, none⟩)] u (PAns no u B ts r)) : Calls Tryz.prog 169 #[.pointer (some ⟨B, 0, none⟩)] w (PAns no w B ts r) := by
  have h2 := alloc_new w zbx
  have hBw := hC.R.lt
  have hb0 : Below w.heap.size w (w.alloc zbx) := ext_alloc (Below.refl _ _) _
  obtain ⟨m1, m2, m3, m4, m5, b, cap, h1, _, hW, _⟩ := (hC.R.below hb0).box
  obtain ⟨c0, c1, c2, c3, c4, c5, c6, f6⟩ := rdC h1
  have hWd := fun u (hb : Below w.heap.size w u) => word_any B ts i u (hC.R.below hb)
  have q0 : LkM m4 (mapObj sk signsKV) (w.alloc zbx) := hW.h4
  have hL := fun u h => look_int (u := u) (m := m4) (kv := signsKV) (by decide) h (wd ts i)
  rw [hn] at hL
  simp only [Option.getD_none, Option.isSome_none] at hL
  obtain ⟨s, hs⟩ : ∃ s, wd ts i = s := ⟨_, rfl⟩
  rw [hs] at hL hWd
  clear hW h1 hn hs
  go_enter Tryz.func169, Tryz.ntmps169
  go_wp2
  go_region_with ((go_at_call 114; refine (hWd _ (hb0.drew)).mono ?_; rintro e w1 ⟨rfl, hb1⟩; have hC1 := hC.below (ext_trans (hb0.drew) hb1); have q3 := LkM.below (LkM.drew _ q0) hb1; have c3 := cellB (W := (w.alloc zbx).drew) hb1 c3))
  all_goals
    have hXX := hX _ hC1
    have g2 := block_below hb1 (W := (w.alloc zbx).drew) h2
    have hk1 : Keeps (fun k => k = B) w w1 := Keeps.of_below (ext_trans (hb0.drew) hb1)
    clear hL q0 q3 c0 c1 c2 c3 c4 c5 c6 f6 hWd hX
    rcases r with l1 | ⟨n1, l1⟩
    · go_wp2_with (go_at_call 175; refine hXX.mono ?_; rintro e w3 ⟨j, hj, hle, rfl, hk3⟩)
      exact ⟨rfl, close_pan hj hle (hk1.trans hk3)⟩
    · go_wp2_with (go_at_call 175; refine hXX.mono ?_; rintro e w3 ⟨j, b1, cap1, hj, rfl, hN3, hR3, hk3⟩; have g3 := hk3.box g2 (by omega); obtain ⟨u0, u1, u2, u3, v0, v1, v2, v3⟩ := in4 g3)
      refine bodyPost_ret (res169 rfl (put4_same _ _ _ _ g3)) rfl ?_
      exact close_ret hj (hN3.weak (fun g hg _ => by have := hk1.size; have := block_lt g2; rcases hg with hg | hg; exact hg.elim; exact ⟨.inr (by omega), by omega⟩)) hR3 (hk1.trans hk3) (Nat.le_refl _) hBw

theorem sgn_of (f : Nat) (hM : SimC f) (hF : ∀ g, g < f → SufC g) (hG : SgnC f) : SgnC (f + 1) := by
  intro r B ts i w hC hP
  rw [P] at hP
  split at hP
  · rename_i h; exact sgn_sign f _ pl_mi 24 rfl hG r B ts i w hC h hP
  split at hP
  · rename_i h; exact sgn_sign f _ pl_not 23 rfl hG r B ts i w hC h hP
  split at hP
  · rename_i h; exact sgn_sign f _ pl_hs 25 rfl hG r B ts i w hC h hP
  rename_i a1 a2 a3
  refine sgn_none r B ts i w hC (look_none ?_) (fun u h => sfxd_of f hM hF r B ts i u h hP)
  intro p hp
  simp only [signsKV, List.mem_cons, List.not_mem_nil, or_false] at hp
  rcases hp with rfl | rfl | rfl
  · exact fun e => a1 ((hC.is pl_mi).1 e.symm)
  · exact fun e => a2 ((hC.is pl_not).1 e.symm)
  · exact fun e => a3 ((hC.is pl_hs).1 e.symm)

/-- Operations in their map. -/
theorem look_op {u : World} {m : Nat} (h : LkM m (mapObj sk operatorsKV) u) (s : List UInt8) : (Instr.lookup 46 (.map (some m)) (sk s) false).run Tryz.prog u = .ok ((operatorsKV.lookup s).getD (.agg #[.int .i64 0, .int .i64 0])) u := by
  have := run_look (P := Tryz.prog) (w := u) (T := 46) (K := 9) (E := 75) (kf := sk) (kv := operatorsKV) (B := m) Tryz.underlying46 Tryz.underlying9 key_str h (by decide) (z := .agg #[.int .i64 0, .int .i64 0]) (by kernel_rfl) s false
  rw [if_neg (by decide)] at this
  exact this
theorem op_look (s : List UInt8) : operatorsKV.lookup s = (opAt s).map fun p => .agg #[.int .i64 p.1, .int .i64 ((p.2 + 1 : Nat) : Int)] := by
  unfold operatorsKV opAt
  have e : ∀ l : List (List UInt8 × Int × Nat), (l.map fun p => (p.1, Value.agg #[.int .i64 p.2.1, .int .i64 ((p.2.2 + 1 : Nat) : Int)])).lookup s = ((l.find? (fun p => p.1 == s)).map (fun p => p.2)).map fun p => .agg #[.int .i64 p.1, .int .i64 ((p.2 + 1 : Nat) : Int)] := fun l => by
    induction l with
    | nil => rfl
    | cons a l ih =>
      simp only [List.map_cons, List.lookup_cons, List.find?_cons]
      by_cases hs : a.1 = s
      · subst hs; simp
      · have h1 : (s == a.1) = false := by simpa using fun e => hs e.symm
        have h2 : (a.1 == s) = false := by simpa using hs
        rw [h1, h2]
        exact ih
  exact e opsL
theorem opAt_wd {w : World} {B : Nat} {ts : List Tok} {i : Nat} (hC : Ctx w B ts i) : opAt (wd ts i) = opAt (tx (rest ts i)) := by
  have hpl : ∀ p ∈ opsL, plainS p.1 := by
    intro p hp
    simp only [opsL, List.mem_cons, List.not_mem_nil, or_false] at hp
    rcases hp with rfl | rfl | rfl | rfl | rfl | rfl | rfl | rfl | rfl | rfl | rfl <;> exact ⟨_, _, rfl, rfl⟩
  have e : ∀ l : List (List UInt8 × Int × Nat), (∀ p ∈ l, plainS p.1) → l.find? (fun p => p.1 == wd ts i) = l.find? (fun p => p.1 == tx (rest ts i)) := fun l => by
    induction l with
    | nil => intro _; rfl
    | cons a l ih =>
      intro h
      have h1 : (a.1 == wd ts i) = (a.1 == tx (rest ts i)) := by
        have := hC.is (h a (by simp))
        by_cases hs : wd ts i = a.1
        · rw [hs, this.1 hs]
        · have h2 : ¬ tx (rest ts i) = a.1 := fun e => hs (this.2 e)
          rw [beq_false_of_ne (fun e => hs e.symm), beq_false_of_ne (fun e => h2 e.symm)]
      simp only [List.find?_cons, h1]
      rw [ih (fun p hp => h p (by simp [hp]))]
  unfold opAt
  rw [e opsL hpl]

theorem res162 {tm : Array Value} {W : World} {B : Nat} {a b c d : Value} (h : tm[4]?.getD undef = .pointer (some ⟨B, 0, none⟩)) (hx : W.heap[B]? = some (.cells #[a, b, c, d] 24)) : (results Tryz.f162 tm).run Tryz.prog W = .ok (.agg #[a, b, c, d]) W := by
  obtain ⟨c0, c1, c2, c3, _, _, _, _⟩ := in4 hx
  simp [results, Tryz.results162, go_sem, h, c0, c1, c2, c3]
set_option maxRecDepth 20000 in
set_option maxHeartbeats 4000000 in
theorem row_sign (f : Nat) (hG : SgnC f) (r : PRes) (B : Nat) (ts : List Tok) (i : Nat) (w : World) (hC : Ctx w B ts i) (hP : P f 1 nil0 0 (rest ts i) = some r) : Calls Tryz.prog 162 #[.pointer (some ⟨B, 0, none⟩), .int .i64 7] w (PAns no w B ts r) := by
  have hE := hG r B ts i (w.alloc zbx) (hC.below (ext_alloc (Below.refl _ _) _)) hP
  have h0 := alloc_new w zbx
  have hBw := hC.R.lt
  clear hG hP
  cases r with
  | inl l =>
    go_enter Tryz.func162, Tryz.ntmps162
    go_wp2_with (go_at_call 169; refine hE.mono ?_; rintro e w1 ⟨j, hj, hle, rfl, hk⟩)
    exact ⟨rfl, close_pan hj hle ((Keeps.of_below (ext_alloc (Below.refl _ _) _)).trans hk)⟩
  | inr p =>
    obtain ⟨n, l⟩ := p
    go_enter Tryz.func162, Tryz.ntmps162
    go_wp2_with (go_at_call 169; refine hE.mono ?_; rintro e w1 ⟨j, b, cap, hj, rfl, hN, hR, hk⟩; have h1 := hk.box h0 (by omega); obtain ⟨c0, c1, c2, c3, f0, f1, f2, f3⟩ := in4 h1)
    refine bodyPost_ret (res162 rfl (put4_same _ _ _ _ h1)) rfl ?_
    exact close_ret hj (hN.weak (fun g hg _ => by simp at hg; exact ⟨.inr (by omega), by omega⟩)) hR ((Keeps.of_below (ext_alloc (Below.refl _ _) _)).trans hk) (Nat.le_refl _) hBw
end Go.Proofs.YtbofdfdmikhanaaGreatDoor
namespace Go.Proofs.YtbofdfdmikhanaaGreatDoor
open Go.RowKit
open Go

theorem wrap_small {x : Int} (h1 : 0 ≤ x) (h2 : x ≤ 100000) : IntKind.i64.wrap x = x := by
  rw [IntWalk.i64_left]
  unfold wrap64
  omega
/-- Between two operations. -/
def RowI (f t a : Nat) (w : World) (B : Nat) (ts : List Tok) (r : PRes) (k : Nat) (wr : World) : Prop :=
  ∃ (n : Nd) (j : Nat) (b : Option Addr) (cap : Nat), wr.heap[t]? = some (nbx n b cap) ∧ wr.heap[w.heap.size]? = some zbx ∧ NdV (fun g => w.heap.size ≤ g ∧ g ≠ w.heap.size ∧ g ≠ t) wr n (ndv n b cap) ∧ Rd wr B ts j ∧ Keeps (fun k => k = B) w wr ∧ k ≤ f ∧ P k 2 n a (rest ts j) = some r
set_option maxRecDepth 20000 in
set_option maxHeartbeats 4000000 in
theorem row_ops (f : Nat) (hG : ∀ g, g ≤ f → RowC g) (a : Nat) (ha : a ≤ 5) (r : PRes) (B : Nat) (ts : List Tok) (i : Nat) (w : World) (hC : Ctx w B ts i) (hP : (P f 0 nil0 (a + 1) (rest ts i)).on (fun n l => P f 2 n a l) = some r) (A : Int) (hA : A = ((a + 1 : Nat) : Int)) : Calls Tryz.prog 162 #[.pointer (some ⟨B, 0, none⟩), .int .i64 A] w (PAns no w B ts r) := by
  obtain ⟨r0, hr0, hr1⟩ := on_some hP
  have hEE := hG f (Nat.le_refl _) (a + 1) r0 B ts i _ (by omega) (hC.below (ext_alloc (Below.refl _ _) zbx)) hr0
  rw [show ((a + 1 + 1 : Nat) : Int) = A + 1 from by omega] at hEE
  have h2 := alloc_new w zbx
  have hBw := hC.R.lt
  have hk0 : Keeps (fun k => k = B) w (w.alloc zbx) := Keeps.of_below (ext_alloc (Below.refl _ _) _)
  have hA7 : ¬ A = 7 := by omega
  have hAl : 1 ≤ A := by omega
  have hAh : A ≤ 6 := by omega
  replace hr1 : Hid _ := hr1
  replace hA : Hid _ := hA
  replace ha : Hid _ := ha
  clear hP hr0
  go_enter Tryz.func162, Tryz.ntmps162
  go_wp2_with (go_at_call 162; refine hEE.mono ?_; intro e w1 hA; rcases r0 with l1 | ⟨n1, l1⟩; (obtain ⟨j, hj, hle, rfl, hk1⟩ := hA; rcases hr1.out with ⟨l, e1, e2⟩ | ⟨n, l, e1, _⟩; (cases e1; subst e2; exact ⟨rfl, close_pan hj hle (hk0.trans hk1)⟩); cases e1); obtain ⟨j, b1, cap1, hj, rfl, hN1, hR1, hk1⟩ := hA)
  rcases hr1.out with ⟨l, e1, _⟩ | ⟨n, l, e1, hr2⟩
  · cases e1
  cases e1
  have g2 := hk1.box h2 (by omega)
  have hz := block_lt g2
  have hb1 : Below w1.heap.size w1 (w1.alloc (nbx n1 b1 cap1)) := ext_alloc (Below.refl _ _) _
  have hI : RowI f w1.heap.size a w B ts r f (w1.alloc (nbx n1 b1 cap1)) := ⟨n1, j, b1, cap1, alloc_new _ _, block_below hb1 g2, (hN1.weak (fun g hg hlt => by simp at hg; exact ⟨by omega, by omega, by omega⟩)).below hb1, hR1.below hb1, (hk0.trans hk1).trans (Keeps.of_below hb1), Nat.le_refl _, by rw [hj]; exact hr2⟩
  obtain ⟨t, ht⟩ : ∃ t, w1.heap.size = t := ⟨_, rfl⟩
  obtain ⟨W1, hW1⟩ : ∃ W1, w1.alloc (nbx n1 b1 cap1) = W1 := ⟨_, rfl⟩
  rw [hW1] at hI
  dsimp only [nbx] at hW1
  rw [hW1]
  rw [ht] at hI hz ⊢
  clear hW1 ht hr1 hr2 hN1 hR1 hk1 g2 h2 hk0 hb1 hEE
  go_loopg [6] f (fun k _ wr => RowI f t a w B ts r k wr)
  case atStart => exact hI
  case round =>
    clear hI
    obtain ⟨n, j, b, cap, g3, g2, hN, hR, hk, hgf, hr⟩ := hrel
    have hCr := hC.on hR
    cases gk with
    | zero => cases hr
    | succ g =>
      rw [P, ← opAt_wd hCr] at hr
      obtain ⟨m1, m2, m3, m4, m5, b', cap', h1, _, hW, _⟩ := hR.box
      obtain ⟨c0, c1, c2, c3, c4, c5, c6, f6⟩ := rdC h1
      have hWd := fun u (hb : Below wr.heap.size wr u) => word_any B ts j u (hR.below hb)
      have q0 : LkM m2 (mapObj sk operatorsKV) wr := hW.h2
      have hL := fun u h => look_op (u := u) (m := m2) h (wd ts j)
      rw [op_look] at hL
      have hrn : ∃ o K, ((opAt (wd ts j)).map fun p => Value.agg #[.int .i64 p.1, .int .i64 ((p.2 + 1 : Nat) : Int)]).getD (.agg #[.int .i64 0, .int .i64 0]) = .agg #[.int .i64 o, .int .i64 K] ∧ ((¬ K = A ∧ r = .inr (n, rest ts j)) ∨ (K = A ∧ j < ts.length ∧ (P g 0 nil0 (a + 1) (rest ts j).tail).on (fun y l => if a = 2 then .ok ⟨22, [], o, [n, y]⟩ l else P g 2 ⟨22, [], o, [n, y]⟩ a l) = some r)) := by
        cases ho : opAt (wd ts j) with
        | none =>
          rw [ho] at hr
          exact ⟨0, 0, rfl, .inl ⟨by omega, (Option.some.inj hr).symm⟩⟩
        | some p =>
          obtain ⟨o, k⟩ := p
          rw [ho] at hr
          simp only at hr
          refine ⟨o, ((k + 1 : Nat) : Int), rfl, ?_⟩
          split at hr
          · rename_i hka
            have := op_of_at ho
            refine .inr ⟨by rw [hA.out, hka], ?_, hr⟩
            rcases Nat.lt_or_ge j ts.length with h' | h'
            · exact h'
            · exact absurd (by rw [wd_rest, rest_end h']; rfl) this.2
          · rename_i hka
            exact .inl ⟨by rw [hA.out]; omega, (Option.some.inj hr).symm⟩
      obtain ⟨o, K, hoK, hrr⟩ := hrn
      rw [hoK] at hL
      obtain ⟨s, hs⟩ : ∃ s, wd ts j = s := ⟨_, rfl⟩
      rw [hs] at hL hWd
      replace hrr : Hid _ := hrr
      clear hoK hs hr hW h1 c0 c2 c3 c4 c5
      go_wp2
      go_cut [6] (fun s6 wx => ∃ t6, s6 = .pointer (some ⟨t6, 0, none⟩) ∧ wr.heap.size ≤ t6 ∧ Below wr.heap.size wr wx ∧ wx.heap[t6]? = some (.cells #[.int .i64 o, .int .i64 K] 75))
      case first =>
        have q1 := LkM.drew (m := m2) (o := mapObj sk operatorsKV)
        have q2 := LkM.alloc (m := m2) (o := mapObj sk operatorsKV)
        have k1 := fun u o (h : Below wr.heap.size wr u) => ext_alloc h o
        have k2 := fun u (h : Below wr.heap.size wr u) => Below.drew h
        have hBlt := hR.lt
        have hBr : ¬ B = wr.heap.size := by omega
        have hBr2 : ¬ wr.heap.size = B := by omega
        have hm2 : m2 < wr.heap.size := block_lt q0
        have k3 := fun u i v (h : Below wr.heap.size wr u) => Below.setCell (p := ⟨wr.heap.size, i, none⟩) h (Nat.le_refl _) v
        have k4 := fun u i v (h : LkM m2 (mapObj sk operatorsKV) u) => show LkM m2 (mapObj sk operatorsKV) (u.setCell ⟨wr.heap.size, i, none⟩ v) from (set1_other u v (by omega)).trans h
        have k0 : Below wr.heap.size wr wr := Below.refl _ _
        go_region_held3 (fun u => u.cell? ⟨B, 1, none⟩ = some (.map (some m2)) ∧ LkM m2 (mapObj sk operatorsKV) u ∧ Below wr.heap.size wr u) (go_keep) (first
          | (go_at_call 114; refine (hWd _ ((Below.refl _ _).drew)).mono ?_; rintro e w4 ⟨rfl, hb4⟩; have hBl : Below wr.heap.size wr w4 := ext_trans ((Below.refl wr.heap.size wr).drew) hb4; have q3 : LkM m2 (mapObj sk operatorsKV) w4 := LkM.below q0 hBl; have c1 := cellB hBl c1; have hBr4 : ¬ B = w4.heap.size := by (have := hBl.size; omega))
          | (go_at_call 114; refine (hWd _ ((ext_alloc (Below.refl _ _) (.cells #[.int .i64 0, .int .i64 0] 75)).drew)).mono ?_; rintro e w4 ⟨rfl, hb4⟩; have hBl : Below wr.heap.size wr w4 := ext_trans ((ext_alloc (Below.refl wr.heap.size wr) (.cells #[.int .i64 0, .int .i64 0] 75)).drew) hb4; have q3 : LkM m2 (mapObj sk operatorsKV) w4 := LkM.below q0 hBl; have c1 := cellB hBl c1; have p6 := block_below (W := (wr.alloc (.cells #[.int .i64 0, .int .i64 0] 75)).drew) hb4 (alloc_new wr _); have z0 := cell_block (i := 0) p6 rfl; have z1 := cell_block (i := 1) p6 rfl; have y0 := frozen_block (i := 0) p6; have y1 := frozen_block (i := 1) p6))
        all_goals
          go_wp2
          go_meet
          case rel => first
            | exact ⟨_, rfl, hBl.size, ext_alloc hBl _, alloc_new _ _⟩
            | exact ⟨_, rfl, Nat.le_refl _, Below.setCell (p := ⟨wr.heap.size, 1, none⟩) (Below.setCell (p := ⟨wr.heap.size, 0, none⟩) hBl (Nat.le_refl _) _) (Nat.le_refl _) _, set_block _ (set_block _ p6)⟩
      case rest =>
        obtain ⟨t6, rfl, ht6, hb5, p6⟩ := hcut
        clear q0 hL hWd c1
        have q3' := block_below hb5 g3
        have q2' := block_below hb5 g2
        have z0 : wc.cell? ⟨t6, 0, none⟩ = some (.int .i64 o) := cell_block p6 rfl
        have z1 : wc.cell? ⟨t6, 1, none⟩ = some (.int .i64 K) := cell_block p6 rfl
        have hR5 := hR.below hb5
        have hk5 := hk.trans (Keeps.of_below hb5)
        have hN5 := hN.below hb5
        have hg3 := block_lt g3
        have hg2 := block_lt g2
        clear hR g3 g2 hN
        refine Lib.hid ?_
        rcases hrr.out with ⟨hKA, hre⟩ | ⟨hKA, hjl, hrr2⟩
        · subst hre
          clear hrr
          obtain ⟨c0, c1, c2, c3, f0, f1, f2, f3⟩ := in4 q3'
          obtain ⟨d0, d1, d2, d3, e0, e1, e2, e3⟩ := in4 q2'
          go_wp2
          refine bodyPost_ret (res162 rfl (put4_same _ _ _ _ q2')) rfl ?_
          exact close_ret rfl (hN5.weak (fun g hg _ => ⟨.inr hg.1, hg.2.1⟩)) hR5 hk5 (Nat.le_refl _) hBw
        · subst hKA
          clear hrr
          rw [rest_tail] at hrr2
          obtain ⟨r1, hr1, hr2⟩ := on_some hrr2
          have hEE := fun u h => hG g (by omega) (a + 1) r1 B ts (j + 1) u (by have := ha.out; omega) h hr1
          rw [show ((a + 1 + 1 : Nat) : Int) = IntKind.i64.wrap (K + 1) from (by rw [wrap_small (by omega) (by omega)]; have := hA.out; omega)] at hEE
          obtain ⟨n1, n2, n3, n4, n5, b', cap', h1', _⟩ := hR5.box
          obtain ⟨_, _, _, _, _, _, d6, e6⟩ := rdC h1'
          have hsh := hR5.short
          have hR6 := hR5.go (j := j + 1) hjl
          have hk6 : Keeps (fun k => k = B) w (wc.setCell ⟨B, 6, none⟩ (.int .i64 ((j : Nat) + 1))) := hk5.set B 6 _ (fun _ => rfl)
          have q36 : (wc.setCell ⟨B, 6, none⟩ (.int .i64 ((j : Nat) + 1))).heap[t]? = some (nbx n b cap) := (set1_other _ _ (by omega)).trans q3'
          have q26 : (wc.setCell ⟨B, 6, none⟩ (.int .i64 ((j : Nat) + 1))).heap[w.heap.size]? = some zbx := (set1_other _ _ (by omega)).trans q2'
          have q66 : (wc.setCell ⟨B, 6, none⟩ (.int .i64 ((j : Nat) + 1))).heap[t6]? = some (.cells #[.int .i64 o, .int .i64 K] 75) := (set1_other _ _ (by omega)).trans p6
          have hN6 := hN5.keep ((Keeps.refl (fun k => k = B) wc).set B 6 (.int .i64 ((j : Nat) + 1)) (fun _ => rfl)) (fun g hg _ => by omega)
          have hg6 := block_lt p6
          obtain ⟨W6, hW6⟩ : ∃ W6, wc.setCell ⟨B, 6, none⟩ (.int .i64 ((j : Nat) + 1)) = W6 := ⟨_, rfl⟩
          have hs6 : W6.heap.size = wc.heap.size := by rw [← hW6]; simp
          rw [hW6] at hk6 q36 q26 q66 hN6
          replace hR6 : Rd W6 B ts (j + 1) := hW6 ▸ hR6
          replace hr2 : Hid _ := hr2
          clear hrr2 hr1 hN5 hR5 hk5 q3' q2' p6 h1'
          go_wp2
          clear hW6 z0 z1 d6 e6
          obtain ⟨c0, c1, c2, c3, f0, f1, f2, f3⟩ := in4 q36
          have y0 : W6.cell? ⟨t6, 0, none⟩ = some (.int .i64 o) := cell_block q66 rfl
          have hC6 := hC.on hR6
          go_cut [1] (fun s1 wx => s1 = .int .i64 K ∧ ∃ y j2 b2 cap2, wx.heap[t]? = some (nbx ⟨22, [], o, [n, y]⟩ b2 cap2) ∧ wx.heap[w.heap.size]? = some zbx ∧ NdV (fun g => w.heap.size ≤ g ∧ g ≠ w.heap.size ∧ g ≠ t) wx ⟨22, [], o, [n, y]⟩ (ndv ⟨22, [], o, [n, y]⟩ b2 cap2) ∧ Rd wx B ts j2 ∧ Keeps (fun k => k = B) w wx ∧ (if a = 2 then PR.ok ⟨22, [], o, [n, y]⟩ (rest ts j2) else P g 2 ⟨22, [], o, [n, y]⟩ a (rest ts j2)) = some r)
          case first =>
            go_region_with ((go_at_call 162; refine (hEE _ (hC6.below ((Below.refl _ _).drew))).mono ?_; intro e w7 hA7; rcases r1 with l1 | ⟨y1, l1⟩; (obtain ⟨j2, hj2, hle, rfl, hk7⟩ := hA7; rcases hr2.out with ⟨l, e1, e2⟩ | ⟨n, l, e1, _⟩; (cases e1; subst e2; exact ⟨rfl, close_pan hj2 hle ((hk6.drew).trans hk7)⟩); cases e1); obtain ⟨j2, b2, cap2, hj2, rfl, hN7, hR7, hk7⟩ := hA7; have q37 := hk7.box q36 (by omega); have q27 := hk7.box q26 (by omega); have q67 := hk7.box q66 (by omega); obtain ⟨c0, c1, c2, c3, f0, f1, f2, f3⟩ := in4 q37; have y0 : w7.cell? ⟨t6, 0, none⟩ = some (.int .i64 o) := cell_block q67 rfl; obtain ⟨x0, x1, x2, x3, y4, y5, y6, y7⟩ := in4a q37; have y0a := fun o' => cellB (ext_alloc (Below.refl _ w7) o') y0))
            all_goals
              go_wp2
              go_meet
              case rel =>
                rcases hr2.out with ⟨l, e1, _⟩ | ⟨n', l, e1, hr3⟩
                · cases e1
                cases e1
                obtain ⟨h1, h2, h3⟩ := pair_box (D := fun g => w.heap.size ≤ g ∧ g ≠ w.heap.size ∧ g ≠ t) 22 o ((hN6.below ((Below.refl _ _).drew)).keep hk7 (fun g hg _ => by omega)) (hN7.weak (fun g hg _ => by simp at hg; exact ⟨by omega, by omega, by omega⟩)) (fun g hg => hg.2.2) ⟨by have := hk7.size; simp at this; omega, by have := block_lt q27; omega, by have := block_lt q37; omega⟩ q37 rfl
                exact ⟨rfl, y1, j2, _, _, h2, h3.box q27 (by omega), h1, hR7.keep h3 (fun g hg => by omega), ((hk6.drew).trans hk7).then h3 (fun q hq e => by omega), by rw [hj2]; exact hr3⟩
          case rest =>
            obtain ⟨rfl, y, j2, b2, cap2, p3, p2, hN8, hR8, hk8, hr8⟩ := hcut
            clear c0 c1 c2 c3 f0 f1 f2 f3 y0 hEE hr2 q36 q26 q66 hN6 hk6 hR6
            obtain ⟨c0, c1, c2, c3, f0, f1, f2, f3⟩ := in4 p3
            obtain ⟨d0, d1, d2, d3, e0, e1, e2, e3⟩ := in4 p2
            replace hr8 : Hid _ := hr8
            by_cases ha2 : a = 2
            · have hK3 : K = 3 := by have := hA.out; omega
              subst hK3
              go_wp2
              refine bodyPost_ret (res162 rfl (put4_same _ _ _ _ p2)) rfl ?_
              have hr9 := hr8.out
              rw [if_pos ha2] at hr9
              obtain rfl := Option.some.inj hr9
              exact close_ret rfl (hN8.weak (fun g hg _ => ⟨.inr hg.1, hg.2.1⟩)) hR8 hk8 (Nat.le_refl _) hBw
            · have hK3 : ¬ K = 3 := by have := hA.out; omega
              go_wp2
              go_roundg g
              case measure => omega
              case rel =>
                have hr9 := hr8.out
                rw [if_neg ha2] at hr9
                exact ⟨_, j2, b2, cap2, p3, p2, hN8, hR8, hk8, by omega, hr9⟩
end Go.Proofs.YtbofdfdmikhanaaGreatDoor
