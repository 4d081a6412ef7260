/- Next. -/
import Derived.Test.YtkcieeckndimpaaGet
namespace Go.Proofs.Ytkcieeckndimpaa
open Go.RowKit Go.Shelf
open Go

set_option linter.unusedSectionVars false
variable [DecidableEq Vl]

attribute [local go_sem] Oper.semAt_some

/-- The key behind k, from here on; past: k has been met. -/
def scan (past : Bool) (k : Vl) : List Vl → Vl × Int
  | [] => (nilV, if past then 0 else 4)
  | x :: r => if past then (x, 0) else scan (decide (x = k)) k r

def nextT (xs ys : List Vl) (k : Vl) : Vl × Int := if mayT xs ys = true ∧ mayB k.k k.n k.s = true then scan (k.k == 0) k xs else (nilV, 2)

theorem res9 {tm : Array Value} {W : World} {B C : Nat} {x : Vl} {c : Int} (h : tm[4]?.getD undef = .pointer (some ⟨B, 0, none⟩)) (h' : tm[5]?.getD undef = .pointer (some ⟨C, 0, none⟩)) (hx : W.heap[B]? = some (bx x)) (hc : W.heap[C]? = some (.cells #[.int .i64 c] 28)) :
    (results Try.f9 tm).run Try.prog W = .ok (.tuple #[x.v, .int .i64 c]) W := by
  obtain ⟨c0, c1, c2, _, _, _⟩ := in3 hx
  have c3 := Boxed.cell hc
  simp [results, Try.results9, go_sem, h, h', c0, c1, c2, c3]

/-- What lies in memory when the call has begun. -/
theorem next_mem (w : World) (o0 : Obj) (k : Vl) {W1 : World} (hW : (((w.alloc o0).alloc (bx k)).alloc (bx nilV)).alloc (.cells #[.int .i64 0] 28) = W1) :
    W1.heap.size = w.heap.size + 4 ∧ Below w.heap.size w W1 ∧ W1.heap[w.heap.size]? = some o0 ∧ W1.heap[w.heap.size + 1]? = some (bx k) ∧ W1.heap[w.heap.size + 1 + 1]? = some (bx nilV) ∧ W1.heap[w.heap.size + 1 + 1 + 1]? = some (.cells #[.int .i64 0] 28) := by
  subst hW
  refine ⟨by simp, ((((Below.refl _ w).alloc (Nat.le_refl _) _).alloc (by simp) _).alloc (by simp; omega) _).alloc (by simp; omega) _, block_alloc _ (block_alloc _ (block_alloc _ (World.alloc_heap_new w _))), ?_, ?_, ?_⟩
  · have := block_alloc (.cells #[.int .i64 0] 28) (block_alloc (bx nilV) (World.alloc_heap_new (w.alloc o0) (bx k)))
    simpa only [World.size_alloc] using this
  · have := block_alloc (.cells #[.int .i64 0] 28) (World.alloc_heap_new ((w.alloc o0).alloc (bx k)) (bx nilV))
    simpa only [World.size_alloc] using this
  · have := World.alloc_heap_new (((w.alloc o0).alloc (bx k)).alloc (bx nilV)) (.cells #[.int .i64 0] 28)
    simpa only [World.size_alloc] using this

set_option maxRecDepth 100000 in
set_option maxHeartbeats 2000000 in
theorem next_no1 (ks vs : Value) (xs ys : List Vl) (k : Vl) (w : World) (hT : Tab w.heap.size w ks vs xs ys) (h : mayT xs ys = false) :
    Calls Try.prog 9 #[.agg #[ks, vs], k.v] w fun e w' => e = .returned (.tuple #[nilV.v, .int .i64 2]) ∧ Below w.heap.size w w' := by
  obtain ⟨a, c1, rfl⟩ := hT.keys.slice
  obtain ⟨a', c2, rfl⟩ := hT.vals.slice
  obtain ⟨W1, hW1⟩ : ∃ W1, ((((w.alloc (.cells #[.slice a xs.length c1, .slice a' ys.length c2] 24)).alloc (bx k)).alloc (bx nilV)).alloc (.cells #[.int .i64 0] 28)) = W1 := ⟨_, rfl⟩
  obtain ⟨hs1, hb0, ht0, hk0, hr0, he0⟩ := next_mem w _ k hW1
  have hC := tmay_f h (.slice a xs.length c1) (.slice a' ys.length c2) _ ((hT.below hb0).mono hb0.size)
  rw [← hW1] at hC
  clear hT h
  go_enter Try.func9, Try.ntmps9
  go_wp2_with (go_at_call 12; refine hC.mono ?_; rintro e w1 ⟨rfl, hb1⟩; refine Hid.out ?_)
  rw [hW1] at hb1
  have hr1 := block_below hb1 hr0
  have he1 := block_below hb1 he0
  obtain ⟨c0, c1', c2', f0, f1, f2⟩ := in3 hr1
  have z0 := Boxed.cell he1
  have z1 := Boxed.frozen he1
  clear hC hW1
  refine Lib.hid ?_
  go_wp2
  refine bodyPost_ret (v := .tuple #[nilV.v, .int .i64 2]) (res9 rfl rfl ((set1_other _ _ (by omega)).trans (put3_same nilV hr1)) (set_block _ ((put3_other _ nilV (by omega)).trans he1))) rfl ⟨rfl, ?_⟩
  exact (put3_below nilV (hb0.trans (hb1.mono hb0.size)) (by omega)).setCell (p := ⟨w.heap.size + 1 + 1 + 1, 0, none⟩) (by simp; omega) _

set_option maxRecDepth 100000 in
set_option maxHeartbeats 2000000 in
theorem next_no2 (ks vs : Value) (xs ys : List Vl) (k : Vl) (w : World) (hT : Tab w.heap.size w ks vs xs ys) (h : mayT xs ys = true) (h' : mayB k.k k.n k.s = false) :
    Calls Try.prog 9 #[.agg #[ks, vs], k.v] w fun e w' => e = .returned (.tuple #[nilV.v, .int .i64 2]) ∧ Below w.heap.size w w' := by
  obtain ⟨a, c1, rfl⟩ := hT.keys.slice
  obtain ⟨a', c2, rfl⟩ := hT.vals.slice
  obtain ⟨W1, hW1⟩ : ∃ W1, ((((w.alloc (.cells #[.slice a xs.length c1, .slice a' ys.length c2] 24)).alloc (bx k)).alloc (bx nilV)).alloc (.cells #[.int .i64 0] 28)) = W1 := ⟨_, rfl⟩
  obtain ⟨hs1, hb0, ht0, hk0, hr0, he0⟩ := next_mem w _ k hW1
  have hC := tmay_t h (.slice a xs.length c1) (.slice a' ys.length c2) _ ((hT.below hb0).mono hb0.size)
  rw [← hW1] at hC
  clear hT h
  have hM := fun u => may_f k.k k.n k.s u h'
  clear h'
  go_enter Try.func9, Try.ntmps9
  go_wp2_with (go_at_call 12; refine hC.mono ?_; rintro e w1 ⟨rfl, hb1⟩; refine Hid.out ?_)
  rw [hW1] at hb1
  have hr1 := block_below hb1 hr0
  have he1 := block_below hb1 he0
  obtain ⟨q0, q1, q2, _, _, _⟩ := in3 (block_below hb1 hk0)
  clear hC hW1
  refine Lib.hid ?_
  go_wp2_with (go_at_call 21; refine (hM _).mono ?_; rintro e w2 ⟨rfl, hb2⟩; refine Hid.out ?_)
  have hr2 := block_below hb2 hr1
  have he2 := block_below hb2 he1
  obtain ⟨c0, c1', c2', f0, f1, f2⟩ := in3 hr2
  have z0 := Boxed.cell he2
  have z1 := Boxed.frozen he2
  refine Lib.hid ?_
  go_wp2
  refine bodyPost_ret (v := .tuple #[nilV.v, .int .i64 2]) (res9 rfl rfl ((set1_other _ _ (by omega)).trans (put3_same nilV hr2)) (set_block _ ((put3_other _ nilV (by omega)).trans he2))) rfl ⟨rfl, ?_⟩
  exact (put3_below nilV (hb0.trans ((ext_trans hb1 hb2).mono hb0.size)) (by omega)).setCell (p := ⟨w.heap.size + 1 + 1 + 1, 0, none⟩) (by simp; omega) _

theorem scan_go {p : Bool} {k : Vl} {pre : List Vl} (h : ∀ r, scan p k (pre ++ r) = scan false k r) (x : Vl) : ∀ r, scan p k ((pre ++ [x]) ++ r) = scan (decide (x = k)) k r := fun r => by
  rw [List.append_assoc, h]; rfl
theorem scan_hit {p : Bool} {k : Vl} {pre : List Vl} (h : ∀ r, scan p k (pre ++ r) = scan true k r) (x : Vl) : ∀ r, scan p k ((pre ++ [x]) ++ r) = (x, 0) := fun r => by
  rw [List.append_assoc, h]; rfl

set_option maxRecDepth 100000 in
set_option maxHeartbeats 2000000 in
theorem next_yes (n : Nat) (h3 : 3 ≤ n) (ks vs : Value) (zs : List (Vl × Vl)) (hlen : zs.length ≤ 100) (k : Vl) (w : World) (hT : Tab w.heap.size w ks vs (keysOf zs) (valsOf zs)) (h : mayT (keysOf zs) (valsOf zs) = true) (h' : mayB k.k k.n k.s = true) :
    CallsIn Fence.wide n Try.prog 9 #[.agg #[ks, vs], k.v] w fun e w' => e = .returned (.tuple #[(scan (k.k == 0) k (keysOf zs)).1.v, .int .i64 (scan (k.k == 0) k (keysOf zs)).2]) ∧ Below w.heap.size w w' := by
  have h1 : 1 ≤ n := by omega
  have hn1 : 1 ≤ n - 1 := by omega
  have hn2 : 1 ≤ n - 1 - 1 := by omega
  obtain ⟨a, c1, hks⟩ := hT.keys.slice
  obtain ⟨a', c2, hvs⟩ := hT.vals.slice
  simp only [keysOf, valsOf, List.length_map] at hks hvs
  subst hks hvs
  obtain ⟨W1, hW1⟩ : ∃ W1, ((((w.alloc (.cells #[.slice a zs.length c1, .slice a' zs.length c2] 24)).alloc (bx k)).alloc (bx nilV)).alloc (.cells #[.int .i64 0] 28)) = W1 := ⟨_, rfl⟩
  obtain ⟨hs1, hb0, ht0, hk0, hr0, he0⟩ := next_mem w _ k hW1
  have hC := tmay_t h (.slice a zs.length c1) (.slice a' zs.length c2) _ ((hT.below hb0).mono hb0.size)
  rw [← hW1] at hC
  have hM := fun u => may_t k.k k.n k.s u h'
  obtain ⟨p0, hp0⟩ : ∃ p0, (k.k == 0) = p0 := ⟨_, rfl⟩
  rw [hp0]
  clear h h'
  refine callsIn_of_wp_marks Try.func9 rfl trivial ?_ rfl
  simp only [Try.ntmps9, List.size_toArray, List.length_cons, List.length_nil, Nat.reduceAdd, Nat.reduceSub, Array.replicate_succ, Array.replicate_zero, List.push_toArray, List.append_toArray, List.nil_append, List.cons_append]
  gi_wp2_with (refine ⟨trivial, ?_⟩; gi_at_call 12; refine (callsIn_wide.2 hC).mono ?_; rintro e w1 ⟨rfl, hb1⟩; refine Hid.out ?_)
  rw [hW1] at hb1
  replace hr0 := block_below hb1 hr0
  replace he0 := block_below hb1 he0
  replace hk0 := block_below hb1 hk0
  replace ht0 := block_below hb1 ht0
  obtain ⟨q0, q1, q2, _, _, _⟩ := in3 hk0
  clear hC hW1
  refine Lib.hid ?_
  gi_wp2_with (refine ⟨trivial, ?_⟩; gi_at_call 21; refine (callsIn_wide.2 (hM _)).mono ?_; rintro e w2 ⟨rfl, hb2⟩; refine Hid.out ?_)
  replace hr0 := block_below hb2 hr0
  replace he0 := block_below hb2 he0
  replace hk0 := block_below hb2 hk0
  replace ht0 := block_below hb2 ht0
  have x0 : w2.cell? ⟨w.heap.size, 0, none⟩ = some (.slice a zs.length c1) := cell_block ht0 rfl
  have x1 : w2.cell? ⟨w.heap.size, 1, none⟩ = some (.slice a' zs.length c2) := cell_block ht0 rfl
  have hb12 := hb0.trans ((ext_trans hb1 hb2).mono hb0.size)
  have hz1 : w.heap.size + 4 ≤ w2.heap.size := by have := hb1.size; have := hb2.size; omega
  clear q0 q1 q2 hb1 hb2 hM
  replace x0 := cell_alloc (.cells #[.bool p0] 4) x0
  replace x1 := cell_alloc (.cells #[.bool p0] 4) x1
  obtain ⟨q0, q1, q2, _, _, _⟩ := in3 hk0
  refine Lib.hid ?_
  gi_wp2_with (refine ⟨trivial, ?_⟩; gi_at_call 19; refine (pairs_in _ _ _ _).mono ?_; rintro e w' ⟨rfl, rfl⟩)
  obtain ⟨W0, hW0⟩ : ∃ W0, (w2.alloc (.cells #[.bool p0] 4)).alloc (.cells #[.slice a zs.length c1, .slice a' zs.length c2] 24) = W0 := ⟨_, rfl⟩
  have hs0 : W0.heap.size = w2.heap.size + 2 := by rw [← hW0]; simp
  have hb2 : Below w.heap.size w W0 := by rw [← hW0]; exact (hb12.alloc (by omega) _).alloc (by simp; omega) _
  have hbt : W0.heap[w2.heap.size + 1]? = some (.cells #[.slice a zs.length c1, .slice a' zs.length c2] 24) := by
    have := World.alloc_heap_new (w2.alloc (.cells #[.bool p0] 4)) (.cells #[.slice a zs.length c1, .slice a' zs.length c2] 24)
    simp only [World.size_alloc] at this
    rw [← hW0]; exact this
  have hpb : W0.heap[w2.heap.size]? = some (.cells #[.bool p0] 4) := by rw [← hW0]; exact block_alloc _ (World.alloc_heap_new _ _)
  replace hr0 : W0.heap[w.heap.size + 1 + 1]? = some (bx nilV) := by rw [← hW0]; exact block_alloc _ (block_alloc _ hr0)
  replace hk0 : W0.heap[w.heap.size + 1]? = some (bx k) := by rw [← hW0]; exact block_alloc _ (block_alloc _ hk0)
  replace he0 : W0.heap[w.heap.size + 1 + 1 + 1]? = some (.cells #[.int .i64 0] 28) := by rw [← hW0]; exact block_alloc _ (block_alloc _ he0)
  rw [hW0]
  clear hW0 x0 x1 ht0 q0 q1 q2
  refine wpIn_rangeFunc_ownH rfl h1 (gf := 28) (lb := #[.pointer (some ⟨w2.heap.size + 1, 0, none⟩)]) rfl trivial (enters_of Try.func28 (by kernel_rfl) rfl)
    (pairs_stops (n - 1) (w2.heap.size + 1) w.heap.size _ _ zs hlen W0 (by omega) (by omega) hbt (hT.below hb2)) (fun h k => h.trans k) (Kept.putObj (by omega) (by omega)) (Below.refl _ _) (fun _ => rfl)
    (fun (pre : List (Vl × Vl)) W => ((∃ pb, (∀ r, scan p0 k (keysOf pre ++ r) = scan pb k r) ∧ W.heap[w2.heap.size]? = some (.cells #[.bool pb] 4)) ∧ W0.heap.size ≤ W.heap.size ∧ W.heap[w.heap.size + 1]? = some (bx k) ∧ W.heap[w.heap.size + 1 + 1]? = some (bx nilV) ∧ W.heap[w.heap.size + 1 + 1 + 1]? = some (.cells #[.int .i64 0] 28)) ∧ Below w.heap.size w W)
    (fun c (pre : List (Vl × Vl)) W => (c = .ret ∧ (∃ y, (∀ r, scan p0 k (keysOf pre ++ r) = (y, 0)) ∧ W.heap[w.heap.size + 1 + 1]? = some (bx y)) ∧ W.heap[w.heap.size + 1 + 1 + 1]? = some (.cells #[.int .i64 0] 28)) ∧ Below w.heap.size w W)
    (OwnFrom.and (OwnFrom.and (fun s A B row hs hg hr => by obtain ⟨pb, e2, e3⟩ := hs; exact ⟨pb, e2, (block_ownFrom (β := Unit) _ (by omega)) () A B row e3 hg hr⟩) (OwnFrom.and size_ownFrom (OwnFrom.and (block_ownFrom _ (by omega)) (OwnFrom.and (block_ownFrom _ (by omega)) (block_ownFrom _ (by omega)))))) (ownFrom_below (Nat.le_refl _) (by omega)))
    (fun c => OwnFrom.and (OwnFrom.and (ownFrom_pure _ _) (OwnFrom.and (fun s A B row hs hg hr => by obtain ⟨y, e2, e3⟩ := hs; exact ⟨y, e2, (block_ownFrom (β := Unit) _ (by omega)) () A B row e3 hg hr⟩) (block_ownFrom _ (by omega)))) (ownFrom_below (Nat.le_refl _) (by omega)))
    ⟨⟨⟨p0, fun _ => rfl, hpb⟩, Nat.le_refl _, hk0, hr0, he0⟩, hb2⟩
    (fun x q W => ∃ Bx, w2.heap.size + 1 < Bx ∧ Three W Bx 0 x.1 ∧ q = { tmps := #[.agg #[.slice a zs.length c1, .slice a' zs.length c2], k.v, .pointer (some ⟨w.heap.size, 0, none⟩), .pointer (some ⟨w.heap.size + 1, 0, none⟩), .pointer (some ⟨w.heap.size + 1 + 1, 0, none⟩), .pointer (some ⟨w.heap.size + 1 + 1 + 1, 0, none⟩), .pointer (some ⟨w2.heap.size, 0, none⟩), .pointer (some ⟨Bx, 0, none⟩), .agg #[.slice a zs.length c1, .slice a' zs.length c2], .bool true, .bool false, .bool false, k.v, .bool true, .bool false, .bool false, undef, .pointer (some ⟨w.heap.size + 1, 0, none⟩), .int .i64 k.k, .bool p0, .agg #[.slice a zs.length c1, .slice a' zs.length c2], .func (.func 28) #[] #[.pointer (some ⟨w2.heap.size + 1, 0, none⟩)], x.1.v, x.2.v, undef, undef, undef, undef, undef, undef, undef, undef, undef], defers := [] })
    (fun x q => fun _ A B row hs hg hr => by obtain ⟨Bx, h1, h2, h4⟩ := hs; exact ⟨Bx, h1, (Three.own (β := Unit) Bx 0 x.1) () A B row h2 hg (fun r e => (hr r e).2), h4⟩)
    ?assign ?body ?done ?stop
  case assign =>
    rintro l pre x W K ⟨⟨⟨pb, hp, kb⟩, hz, k0, k1, k2⟩, hB⟩ hK
    gi_wp2
    have hb' : Below W.heap.size W (W.alloc (bx x.1)) := (Below.refl _ _).alloc (Nat.le_refl _) _
    exact hK _ _ (keepsFrom_of_below hb') (kept_of_below hb' (by omega) (by omega)) ⟨⟨⟨pb, hp, block_below hb' kb⟩, Nat.le_trans hz hb'.size, block_below hb' k0, block_below hb' k1, block_below hb' k2⟩, hB.trans (hb'.mono (by omega))⟩ ⟨W.heap.size, by omega, three_new W x.1, rfl⟩
  case body =>
    rintro l pre x q W hl ⟨r, hr⟩ ⟨⟨⟨pb, hp, kb⟩, hz, k0, k1, k2⟩, hB⟩ ⟨Bx, hBx, ⟨t0, t1, t2⟩, rfl⟩ hlt
    clear hr hT hbt hb2 hr0 hk0 hb0 hb12 hpb he0
    rename_i Kd ad
    clear ad Kd
    obtain ⟨u0, u1, u2, _, _, _⟩ := in3 k0
    have v0 := Boxed.cell kb
    have v1 := Boxed.frozen kb
    have ek : keysOf (pre ++ [x]) = keysOf pre ++ [x.1] := by simp [keysOf]
    cases pb
    · replace hp : Hid _ := hp
      gi_wp2
      · rename_i e1 e2 e3
        have e : decide (x.1 = k) = true := decide_eq_true (Vl.ext' e1 e2 e3)
        have hB' := hB.setCell (p := ⟨w2.heap.size, 0, none⟩) (by show w.heap.size ≤ w2.heap.size; omega) (.bool true)
        exact ⟨(KeepsOthers.setCell _ _ _).from _, ⟨(Below.refl _ _).setCell (p := ⟨w2.heap.size, 0, none⟩) (by show w.heap.size ≤ w2.heap.size; omega) _, set1_other _ _ (by omega)⟩, ⟨⟨true, by rw [ek, ← e]; exact scan_go hp.out x.1, Boxed.set _ kb⟩, Nat.le_trans hz (KeepsOthers.setCell W ⟨w2.heap.size, 0, none⟩ (.bool true)).size, (set1_other _ _ (by omega)).trans k0, (set1_other _ _ (by omega)).trans k1, (set1_other _ _ (by omega)).trans k2⟩, hB'⟩
      all_goals
        have e : decide (x.1 = k) = false := decide_eq_false (fun e => by subst e; contradiction)
        have hB' := hB.setCell (p := ⟨w2.heap.size, 0, none⟩) (by show w.heap.size ≤ w2.heap.size; omega) (.bool false)
        exact ⟨(KeepsOthers.setCell _ _ _).from _, ⟨(Below.refl _ _).setCell (p := ⟨w2.heap.size, 0, none⟩) (by show w.heap.size ≤ w2.heap.size; omega) _, set1_other _ _ (by omega)⟩, ⟨⟨false, by rw [ek, ← e]; exact scan_go hp.out x.1, Boxed.set _ kb⟩, Nat.le_trans hz (KeepsOthers.setCell W ⟨w2.heap.size, 0, none⟩ (.bool false)).size, (set1_other _ _ (by omega)).trans k0, (set1_other _ _ (by omega)).trans k1, (set1_other _ _ (by omega)).trans k2⟩, hB'⟩
    · replace hp : Hid _ := hp
      obtain ⟨r0, r1, r2, f0, f1, f2⟩ := in3 k1
      have z0 := Boxed.cell k2
      have z1 := Boxed.frozen k2
      gi_wp2
      exact ⟨((put3_keeps W _ x.1).trans (KeepsOthers.setCell _ _ _)).from _, ⟨rfl, ⟨x.1, by rw [ek]; exact scan_hit hp.out x.1, (set1_other _ _ (by omega)).trans (put3_same x.1 k1)⟩, set_block _ ((put3_other _ x.1 (by omega)).trans k2)⟩, (put3_below x.1 hB (by omega)).setCell (p := ⟨w.heap.size + 1 + 1 + 1, 0, none⟩) (by simp; omega) _⟩
  case done =>
    rintro D ys W hD rfl ⟨⟨⟨pb, hp, kb⟩, hz, k0, k1, k2⟩, hB⟩ hK
    obtain ⟨r0, r1, r2, f0, f1, f2⟩ := in3 k1
    have z0 := Boxed.cell k2
    have z1 := Boxed.frozen k2
    have v0 := Boxed.cell kb
    have v1 := Boxed.frozen kb
    have hp' := hp []
    rw [List.append_nil] at hp'
    replace hp' : Hid _ := hp'
    clear hp
    cases pb
    · gi_wp2
      have hK' : ((put3 W (w.heap.size + 1 + 1) nilV).setCell ⟨w.heap.size + 1 + 1 + 1, 0, none⟩ (.int .i64 4)).heap[D]? = some (.deferred (some [])) := ((put3_keeps W _ _).trans (KeepsOthers.setCell _ _ _)).same D _ hK rfl
      refine ⟨by simp, .inl ⟨_, _, rfl, run_takeDeferred hK', ?_⟩⟩
      refine ⟨.tuple #[nilV.v, .int .i64 4], res9 rfl rfl (block_put ((set1_other _ _ (by omega)).trans (put3_same nilV k1)) (by omega)) (block_put (set_block _ ((put3_other _ nilV (by omega)).trans k2)) (by omega)), by rw [hp'.out]; rfl, ?_⟩
      exact ((put3_below nilV hB (by omega)).setCell (p := ⟨w.heap.size + 1 + 1 + 1, 0, none⟩) (by simp; omega) _).trans (belowK_b (w := w) (Nat.le_refl _) _ D _ _ (by omega) hK' rfl rfl)
    · gi_wp2
      have hK' : ((put3 W (w.heap.size + 1 + 1) nilV).setCell ⟨w.heap.size + 1 + 1 + 1, 0, none⟩ (.int .i64 0)).heap[D]? = some (.deferred (some [])) := ((put3_keeps W _ _).trans (KeepsOthers.setCell _ _ _)).same D _ hK rfl
      refine ⟨by simp, .inl ⟨_, _, rfl, run_takeDeferred hK', ?_⟩⟩
      refine ⟨.tuple #[nilV.v, .int .i64 0], res9 rfl rfl (block_put ((set1_other _ _ (by omega)).trans (put3_same nilV k1)) (by omega)) (block_put (set_block _ ((put3_other _ nilV (by omega)).trans k2)) (by omega)), by rw [hp'.out]; rfl, ?_⟩
      exact ((put3_below nilV hB (by omega)).setCell (p := ⟨w.heap.size + 1 + 1 + 1, 0, none⟩) (by simp; omega) _).trans (belowK_b (w := w) (Nat.le_refl _) _ D _ _ (by omega) hK' rfl rfl)
  case stop =>
    rintro D c pre W hD hpre ⟨⟨rfl, ⟨y, hy, k1⟩, k2⟩, hB⟩ hK
    gi_wp2
    refine ⟨by simp, .inl ⟨_, _, rfl, run_takeDeferred hK, ?_⟩⟩
    refine ⟨.tuple #[y.v, .int .i64 0], res9 rfl rfl (block_put k1 (by omega)) (block_put k2 (by omega)), ?_, hB.trans (belowK_b (w := w) (Nat.le_refl _) _ D _ _ (by omega) hK rfl rfl)⟩
    obtain ⟨r, rfl⟩ := hpre
    rw [keysOf, List.map_append, hy]

/-- Next, whatever the table and the key. -/
theorem next_any (ks vs : Value) (xs ys : List Vl) (k : Vl) (w : World) (hT : Tab w.heap.size w ks vs xs ys) :
    Calls Try.prog 9 #[.agg #[ks, vs], k.v] w fun e w' => e = .returned (.tuple #[(nextT xs ys k).1.v, .int .i64 (nextT xs ys k).2]) ∧ Below w.heap.size w w' := by
  unfold nextT
  cases h : mayT xs ys
  · exact next_no1 ks vs xs ys k w hT h
  · cases h' : mayB k.k k.n k.s
    · exact next_no2 ks vs xs ys k w hT h h'
    · obtain ⟨hl, hl'⟩ := mayT_len h
      have := next_yes 3 (by omega) ks vs (xs.zip ys) (by rw [List.length_zip]; omega) k w (by rw [zip_keys hl, zip_vals hl]; exact hT) (by rw [zip_keys hl, zip_vals hl]; exact h) h'
      rw [zip_keys hl] at this
      exact callsIn_wide.1 this

end Go.Proofs.Ytkcieeckndimpaa
