/- The machine's tables: Len, Next. The machine's tables: Next. -/
import Derived.Test.YthdhgfpidhbdiaaGreatDoorJ27
namespace Go.Proofs.YthdhgfpidhbdiaaGreatDoor
open Go.RowKit
open Go

set_option linter.unusedSectionVars false
variable [DecidableEq Vl]

theorem res101 {tm : Array Value} {W : World} {B : Nat} {x : Vl} (h : tm[4]?.getD undef = .pointer (some ⟨B, 0, none⟩)) (hx : W.heap[B]? = some (bx x)) : (results Tryz.f101 tm).run Tryz.prog W = .ok x.v W := by
  obtain ⟨c0, c1, c2, _, _, _⟩ := in3 hx
  simp [results, Tryz.results101, go_sem, h, c0, c1, c2]
theorem res102 {tm : Array Value} {W : World} {B : Nat} {x : Vl} (h : tm[6]?.getD undef = .pointer (some ⟨B, 0, none⟩)) (hx : W.heap[B]? = some (bx x)) : (results Tryz.f102 tm).run Tryz.prog W = .ok x.v W := by
  obtain ⟨c0, c1, c2, _, _, _⟩ := in3 hx
  simp [results, Tryz.results102, go_sem, h, c0, c1, c2]
theorem new2 (W : World) (a b : Obj) : ((W.alloc a).alloc b).heap[W.heap.size + 1]? = some b := by
  have := heap_new (W.alloc a) b
  simpa using this
theorem number_v (i : Nat) (hi : i ≤ 1000) (w : World) : Calls Tryz.prog 118 #[.int .i64 (i : Nat)] w fun e w' => e = .returned (numV i).v ∧ Below w.heap.size w w' :=
  (vnumber_any i w).mono fun e w' ⟨a, b⟩ => ⟨by rw [a, numV_eq hi], by rw [b]; exact ext_alloc (Below.refl _ _) _⟩
set_option maxRecDepth 20000 in
set_option maxHeartbeats 2000000 in
theorem mlen_txt (pt : Value) (n : Int) (t : ByteArray) (W : World) (ht : t.size ≤ 300) : Calls Tryz.prog 101 #[pt, .agg #[.int .i64 3, .int .i64 n, .string t]] W (VQ W (.inr (numV t.size))) := by
  have g0 := new2 W (.cells #[.int .i64 3, .int .i64 n, .string t] 30) (bx nilV)
  have E0 := ext_alloc (ext_alloc (Below.refl W.heap.size W) (.cells #[.int .i64 3, .int .i64 n, .string t] 30)) (bx nilV)
  have hnum := number_v t.size (by omega)
  go_enter Tryz.func101, Tryz.ntmps101
  go_wp2_with (go_at_call 118; refine (hnum _).mono ?_; rintro e w2 ⟨rfl, hb2⟩; have g2 := block_below hb2 g0; obtain ⟨c0, c1, c2, f0, f1, f2⟩ := in3 g2)
  exact bodyPost_ret (res101 (B := W.heap.size + 1) rfl (put3_same _ g2)) rfl ⟨put3_below _ (ext_trans E0 hb2) (by omega), rfl⟩
set_option maxRecDepth 20000 in
set_option maxHeartbeats 2000000 in
theorem mlen_no (pt : Value) (k n : Int) (t : ByteArray) (W : World) (h3 : (k == 3) = false) (h4 : (k != 4) = true) : Calls Tryz.prog 101 #[pt, .agg #[.int .i64 k, .int .i64 n, .string t]] W (VQ W (.inl 3)) := by
  have E0 := ext_alloc (ext_alloc (Below.refl W.heap.size W) (.cells #[.int .i64 k, .int .i64 n, .string t] 30)) (bx nilV)
  go_enter Tryz.func101, Tryz.ntmps101
  go_wp2_with (go_at_call 116; refine (table_no _ _ _ _ _ h4).mono ?_; rintro e w2 ⟨rfl, rfl⟩)
  exact ⟨rfl, ext_alloc E0 _, rfl⟩
set_option maxRecDepth 20000 in
set_option maxHeartbeats 2000000 in
theorem mlen_tab (B T tc nt i m : Nat) (t : ByteArray) (ks vs : Value) (x : Tb) (W : World) (c3 : W.cell? ⟨B, 3, none⟩ = some (.slice (some ⟨T, 0, none⟩) nt tc)) (hi : i < nt) (hn : nt ≤ 1000)
    (d0 : W.cell? ⟨T, i * 2, none⟩ = some ks) (d1 : W.cell? ⟨T, i * 2 + 1, none⟩ = some vs) (hT : Tab W.heap.size W ks vs x.ks x.vs) (hm : lenZ x.ks x.vs = m) (h100 : m ≤ 1000) :
    Calls Tryz.prog 101 #[.pointer (some ⟨B, 0, none⟩), .agg #[.int .i64 4, .int .i64 (i : Nat), .string t]] W (VQ W (.inr (numV m))) := by
  have hB := World.block_lt_of_cell? _ _ c3
  have hTl := World.block_lt_of_cell? _ _ d0
  simp only at hB hTl
  have g0 := new2 W (.cells #[.int .i64 4, .int .i64 (i : Nat), .string t] 30) (bx nilV)
  have E0 := ext_alloc (ext_alloc (Below.refl W.heap.size W) (.cells #[.int .i64 4, .int .i64 (i : Nat), .string t] 30)) (bx nilV)
  have hcl := fun w2 (hb : Below W.heap.size W w2) => table_yes B T tc nt i t w2 ((hb.cell (p := ⟨B, 3, none⟩) hB).trans c3) hi hn
  have hlen : ∀ w2, Below W.heap.size W w2 → w2.cell? ⟨T, i * 2, none⟩ = some ks ∧ w2.cell? ⟨T, i * 2 + 1, none⟩ = some vs ∧ Calls Tryz.prog 119 #[.agg #[ks, vs]] w2 fun e w' => e = .returned (.int .i64 (m : Nat)) ∧ Below w2.heap.size w2 w' := fun w2 hb => by
    refine ⟨(hb.cell (p := ⟨T, i * 2, none⟩) hTl).trans d0, (hb.cell (p := ⟨T, i * 2 + 1, none⟩) hTl).trans d1, ?_⟩
    have h2 := hT.below hb
    refine (len_any ks vs x.ks x.vs w2 ⟨row_mono hb.size h2.keys, row_mono hb.size h2.vals⟩).mono ?_
    rintro e w' ⟨⟨m', hm', rfl⟩, hb'⟩
    rw [← hm, ← lenZ_of hm']
    exact ⟨rfl, hb'⟩
  have hnum := number_v m h100
  replace hcl : Hid _ := hcl
  replace hlen : Hid _ := hlen
  clear hm hT
  go_enter Tryz.func101, Tryz.ntmps101
  go_wp2_with (go_at_call 116; refine (hcl.out _ E0).mono ?_; rintro e w2 ⟨rfl, hb2⟩; have E2 := ext_trans E0 hb2; obtain ⟨k0, k1, hl⟩ := hlen.out w2 E2; refine Hid.out ?_)
  refine Lib.hid ?_
  go_wp2_with (go_at_call 119; refine hl.mono ?_; rintro e w3 ⟨rfl, hb3⟩; have E3 := ext_trans E2 hb3; refine Hid.out ?_)
  refine Lib.hid ?_
  go_wp2_with (go_at_call 118; refine (hnum _).mono ?_; rintro e w4 ⟨rfl, hb4⟩; have g2 := block_below hb4 (block_below hb3 (block_below hb2 g0)); obtain ⟨c0, c1, c2, f0, f1, f2⟩ := in3 g2)
  exact bodyPost_ret (res101 (B := W.heap.size + 1) rfl (put3_same _ g2)) rfl ⟨put3_below _ (ext_trans E3 hb4) (by omega), rfl⟩
/-- What Len leaves. -/
def lenR (v : Vl) (t : Tb) : Int ⊕ Vl := if v.k = 3 then .inr (numV v.s.size) else if v.k = 4 then .inr (numV (lenZ t.ks t.vs)) else .inl 3
theorem lenZ_le (xs ys : List Vl) : lenZ xs ys ≤ 101 := by
  have key : ∀ f n, lenG xs f n ≤ n + f := by
    intro f
    induction f with
    | zero => intro n; simp [lenG]
    | succ f ih => intro n; rw [lenG]; split
                   · have := ih (n + 1); omega
                   · omega
  unfold lenZ
  split
  · have := key 101 0; omega
  · omega
theorem mlen_any (B T tc nt : Nat) (v : Vl) (x : Tb) (ks vs : Value) (W : World) (c3 : W.cell? ⟨B, 3, none⟩ = some (.slice (some ⟨T, 0, none⟩) nt tc)) (hm : mayB v.k v.n v.s = true) (hv : v.k = 4 → 0 ≤ v.n ∧ v.n.toNat < nt) (hn : nt ≤ 1000)
    (hd : v.k = 4 → W.cell? ⟨T, v.n.toNat * 2, none⟩ = some ks ∧ W.cell? ⟨T, v.n.toNat * 2 + 1, none⟩ = some vs ∧ Tab W.heap.size W ks vs x.ks x.vs) :
    Calls Tryz.prog 101 #[.pointer (some ⟨B, 0, none⟩), v.v] W (VQ W (lenR v x)) := by
  obtain ⟨k, n, t, _, _, _⟩ := v
  unfold lenR
  simp only at hm hv hd ⊢
  by_cases h3 : k = 3
  · subst h3
    rw [if_pos rfl]
    exact mlen_txt _ n t W (txt_size hm)
  · rw [if_neg h3]
    by_cases h4 : k = 4
    · subst h4
      rw [if_pos rfl]
      obtain ⟨a1, a2⟩ := hv rfl
      obtain ⟨d0, d1, hT⟩ := hd rfl
      obtain ⟨i, rfl⟩ : ∃ i : Nat, n = i := ⟨n.toNat, by omega⟩
      simp only [Int.toNat_natCast] at a2 d0 d1
      exact mlen_tab B T tc nt i _ t ks vs x W c3 a2 hn d0 d1 hT rfl (by have := lenZ_le x.ks x.vs; omega)
    · rw [if_neg h4]
      exact mlen_no _ k n t W (by simpa using h3) (by simpa using h4)
end Go.Proofs.YthdhgfpidhbdiaaGreatDoor
namespace Go.Proofs.YthdhgfpidhbdiaaGreatDoor
open Go.RowKit
open Go

set_option linter.unusedSectionVars false
variable [DecidableEq Vl]

/-- Three boxes, and what the walk asks of them. -/
theorem three_boxes (W : World) (v y : Vl) {w1 : World} (hw1 : ((W.alloc (.cells #[.int .i64 v.k, .int .i64 v.n, .string v.s] 30)).alloc (.cells #[.int .i64 y.k, .int .i64 y.n, .string y.s] 30)).alloc (.cells #[.int .i64 0, .int .i64 0, .string ⟨#[]⟩] 30) = w1) :
    Below W.heap.size W w1 ∧ w1.heap[W.heap.size + 1 + 1]? = some (bx nilV) ∧ w1.heap[W.heap.size + 1]? = some (bx y) ∧ w1.heap[W.heap.size]? = some (bx v) ∧ W.heap.size + 1 + 1 < w1.heap.size := by
  have g0 : w1.heap[W.heap.size + 1 + 1]? = some (bx nilV) := by rw [← hw1]; exact new3 W _ _ _
  refine ⟨by rw [← hw1]; exact below3 W _ _ _, g0, ?_, ?_, block_lt g0⟩
  · rw [← hw1]; exact block_alloc _ (new2 W _ _)
  · rw [← hw1]; exact block_alloc _ (block_alloc _ (heap_new _ _))
theorem k3 {w : World} {B c o : Nat} {r : Vl} (h : c ≠ B) : (put3 w B r).cell? ⟨c, o, none⟩ = w.cell? ⟨c, o, none⟩ := World.cell?_of_block (a := ⟨c, o, none⟩) (put3_other w r h)
set_option maxRecDepth 20000 in
set_option maxHeartbeats 4000000 in
theorem mnext_4 (B T tc nt i : Nat) (v y r : Vl) (er : Int) (ks vs : Value) (W : World) (c3 : W.cell? ⟨B, 3, none⟩ = some (.slice (some ⟨T, 0, none⟩) nt tc)) (hi : i < nt) (hn : nt ≤ 1000) (hv : v.k = 4) (hvn : v.n = (i : Nat))
    (d0 : W.cell? ⟨T, i * 2, none⟩ = some ks) (d1 : W.cell? ⟨T, i * 2 + 1, none⟩ = some vs)
    (hT : ∀ w2, Below W.heap.size W w2 → Calls Tryz.prog 120 #[.agg #[ks, vs], y.v] w2 fun e w' => e = .returned (.tuple #[r.v, .int .i64 er]) ∧ Below w2.heap.size w2 w') (he : er = 0) :
    Calls Tryz.prog 102 #[.pointer (some ⟨B, 0, none⟩), v.v, y.v] W (VQ W (.inr r)) := by
  have hB := World.block_lt_of_cell? _ _ c3
  have hTl := World.block_lt_of_cell? _ _ d0
  simp only at hB hTl
  obtain ⟨w1, hw1⟩ : ∃ w1, ((W.alloc (.cells #[.int .i64 v.k, .int .i64 v.n, .string v.s] 30)).alloc (.cells #[.int .i64 y.k, .int .i64 y.n, .string y.s] 30)).alloc (.cells #[.int .i64 0, .int .i64 0, .string ⟨#[]⟩] 30) = w1 := ⟨_, rfl⟩
  obtain ⟨E0, g0, g1, g2, hz⟩ := three_boxes W v y hw1
  obtain ⟨b0, b1, b2, _, _, _⟩ := in3 g1
  obtain ⟨p0, p1, p2, _, _, _⟩ := in3 g2
  have k0 := (E0.cell (p := ⟨T, i * 2, none⟩) hTl).trans d0
  have k1 := (E0.cell (p := ⟨T, i * 2 + 1, none⟩) hTl).trans d1
  have hcl := fun w2 (hb : Below W.heap.size W w2) => table_yes B T tc nt i v.s w2 ((hb.cell (p := ⟨B, 3, none⟩) hB).trans c3) hi hn
  rw [← hv, ← hvn] at hcl
  have hS : ∀ u, Below w1.heap.size w1 u → u.cell? ⟨W.heap.size, 0, none⟩ = some (.int .i64 v.k) ∧ u.cell? ⟨W.heap.size, 1, none⟩ = some (.int .i64 v.n) ∧ u.cell? ⟨W.heap.size, 2, none⟩ = some (.string v.s) ∧ u.cell? ⟨W.heap.size + 1, 0, none⟩ = some (.int .i64 y.k) ∧ u.cell? ⟨W.heap.size + 1, 1, none⟩ = some (.int .i64 y.n) ∧ u.cell? ⟨W.heap.size + 1, 2, none⟩ = some (.string y.s) ∧ u.cell? ⟨T, i * 2, none⟩ = some ks ∧ u.cell? ⟨T, i * 2 + 1, none⟩ = some vs := fun u hb => ⟨cellB hb p0, cellB hb p1, cellB hb p2, cellB hb b0, cellB hb b1, cellB hb b2, cellB hb k0, cellB hb k1⟩
  replace hS : Hid _ := hS
  subst he
  replace hT : Hid _ := hT
  replace hcl : Hid _ := hcl
  clear g2 g1 hv hvn c3 d0 d1
  have y1 : W.heap.size ≠ w1.heap.size := by omega
  have y2 : W.heap.size + 1 ≠ w1.heap.size := by omega
  have y3 : T ≠ w1.heap.size := by omega
  have y4 : W.heap.size + 1 + 1 ≠ w1.heap.size := by omega
  go_enter Tryz.func102, Tryz.ntmps102
  go_wp2
  go_region_held3 (fun u => u.cell? ⟨W.heap.size, 0, none⟩ = some (.int .i64 v.k) ∧ u.cell? ⟨W.heap.size, 1, none⟩ = some (.int .i64 v.n) ∧ u.cell? ⟨W.heap.size, 2, none⟩ = some (.string v.s) ∧ u.cell? ⟨W.heap.size + 1, 0, none⟩ = some (.int .i64 y.k) ∧ u.cell? ⟨W.heap.size + 1, 1, none⟩ = some (.int .i64 y.n) ∧ u.cell? ⟨W.heap.size + 1, 2, none⟩ = some (.string y.s) ∧ u.cell? ⟨T, i * 2, none⟩ = some ks ∧ u.cell? ⟨T, i * 2 + 1, none⟩ = some vs) (first | go_keep | with_reducible exact ⟨(k3 x1).trans s0, (k3 x1).trans s1, (k3 x1).trans s2, (k3 x2).trans s3, (k3 x2).trans s4, (k3 x2).trans s5, (k3 x3).trans s6, (k3 x3).trans s7⟩ | with_reducible exact ⟨(k3 y1).trans s0, (k3 y1).trans s1, (k3 y1).trans s2, (k3 y2).trans s3, (k3 y2).trans s4, (k3 y2).trans s5, (k3 y3).trans s6, (k3 y3).trans s7⟩) (first | (go_at_call 116; refine (hcl.out _ (by repeat (first | with_reducible exact E0 | with_reducible refine ext_drew ?_ | with_reducible refine ext_alloc ?_ _))).mono ?_; rintro e w2 ⟨rfl, hb2⟩; have E2 := ext_trans (show Below W.heap.size W _ from (by repeat (first | with_reducible exact E0 | with_reducible refine ext_drew ?_ | with_reducible refine ext_alloc ?_ _))) hb2; have N2 := ext_trans (show Below w1.heap.size w1 _ from (by repeat (first | with_reducible exact (Below.refl _ _) | with_reducible refine ext_drew ?_ | with_reducible refine ext_alloc ?_ _))) hb2; (try (have gA : w2.heap[w1.drew.heap.size]? = some (.cells #[.int .i64 0, .int .i64 0, .string ⟨#[]⟩] 30) := (by with_reducible exact block_below hb2 (heap_new _ _)); replace gA : w2.heap[w1.heap.size]? = some (bx nilV) := gA)); have Z2 := N2.size; have x1 : W.heap.size ≠ w2.heap.size := (by omega); have x2 : W.heap.size + 1 ≠ w2.heap.size := (by omega); have x3 : T ≠ w2.heap.size := (by omega); have x4 : W.heap.size + 1 + 1 ≠ w2.heap.size := (by omega); obtain ⟨s0, s1, s2, s3, s4, s5, s6, s7⟩ := hS.out w2 N2) | (go_at_call 120; refine (hT.out _ (by repeat (first | with_reducible exact E2 | with_reducible refine ext_drew ?_ | with_reducible refine ext_alloc ?_ _))).mono ?_; rintro e w3 ⟨rfl, hb3⟩; have E3 := ext_trans (show Below W.heap.size W _ from (by repeat (first | with_reducible exact E2 | with_reducible refine ext_drew ?_ | with_reducible refine ext_alloc ?_ _))) hb3; have N3 := ext_trans (show Below w1.heap.size w1 _ from (by repeat (first | with_reducible exact N2 | with_reducible refine ext_drew ?_ | with_reducible refine ext_alloc ?_ _))) hb3; (try (have gD : w3.heap[w1.heap.size]? = some (bx nilV) := (by with_reducible exact block_below hb3 gA); obtain ⟨m0, m1, m2, n0, n1, n2⟩ := in3 gD)); (try (have gC : w3.heap[w2.heap.size]? = some (.cells #[.int .i64 0, .int .i64 0, .string ⟨#[]⟩] 30) := (by with_reducible exact block_below hb3 (heap_new _ _)); replace gC : w3.heap[w2.heap.size]? = some (bx nilV) := gC; obtain ⟨m0, m1, m2, n0, n1, n2⟩ := in3 gC)); have g3 := block_below N3 g0; obtain ⟨a0, a1, a2, f0, f1, f2⟩ := in3 g3; obtain ⟨s0, s1, s2, s3, s4, s5, s6, s7⟩ := hS.out w3 N3))
  · obtain ⟨X, hX⟩ : ∃ X, w3.alloc (.cells #[.int .i64 r.k, .int .i64 r.n, .string r.s] 30) = X := ⟨_, rfl⟩
    have EX : Below W.heap.size W X := by rw [← hX]; exact ext_alloc E3 _
    have gK : X.heap[w3.heap.size]? = some (bx r) := by rw [← hX]; exact heap_new _ _
    have gR : X.heap[W.heap.size + 1 + 1]? = some (bx nilV) := by rw [← hX]; exact block_alloc _ g3
    rw [hX]
    clear hX
    obtain ⟨u0, u1, u2, _, _, _⟩ := in3 gK
    obtain ⟨v0, v1, v2, o0, o1, o2⟩ := in3 gR
    go_wp2_with (go_at_call 114; refine (need_ok _).mono ?_; rintro e w' ⟨rfl, rfl⟩)
    exact bodyPost_ret (res102 (B := W.heap.size + 1 + 1) rfl (put3_same r gR)) rfl ⟨put3_below r EX (by omega), rfl⟩
  · obtain ⟨X, hX⟩ : ∃ X, ((w3.setCell ⟨w2.heap.size, 0, none⟩ (.int .i64 r.k)).setCell ⟨w2.heap.size, 1, none⟩ (.int .i64 r.n)).setCell ⟨w2.heap.size, 2, none⟩ (.string r.s) = X := ⟨_, rfl⟩
    have EX : Below W.heap.size W X := by rw [← hX]; exact put3_below r E3 (by omega)
    have gK : X.heap[w2.heap.size]? = some (bx r) := by rw [← hX]; exact put3_same r gC
    have gR : X.heap[W.heap.size + 1 + 1]? = some (bx nilV) := by rw [← hX]; exact (put3_other _ r x4).trans g3
    rw [hX]
    clear hX
    obtain ⟨u0, u1, u2, _, _, _⟩ := in3 gK
    obtain ⟨v0, v1, v2, o0, o1, o2⟩ := in3 gR
    go_wp2_with (go_at_call 114; refine (need_ok _).mono ?_; rintro e w' ⟨rfl, rfl⟩)
    exact bodyPost_ret (res102 (B := W.heap.size + 1 + 1) rfl (put3_same r gR)) rfl ⟨put3_below r EX (by omega), rfl⟩
  · obtain ⟨X, hX⟩ : ∃ X, ((w3.setCell ⟨w1.heap.size, 0, none⟩ (.int .i64 r.k)).setCell ⟨w1.heap.size, 1, none⟩ (.int .i64 r.n)).setCell ⟨w1.heap.size, 2, none⟩ (.string r.s) = X := ⟨_, rfl⟩
    have EX : Below W.heap.size W X := by rw [← hX]; exact put3_below r E3 (by omega)
    have gK : X.heap[w1.heap.size]? = some (bx r) := by rw [← hX]; exact put3_same r gD
    have gR : X.heap[W.heap.size + 1 + 1]? = some (bx nilV) := by rw [← hX]; exact (put3_other _ r y4).trans g3
    rw [hX]
    clear hX
    obtain ⟨u0, u1, u2, _, _, _⟩ := in3 gK
    obtain ⟨v0, v1, v2, o0, o1, o2⟩ := in3 gR
    go_wp2_with (go_at_call 114; refine (need_ok _).mono ?_; rintro e w' ⟨rfl, rfl⟩)
    exact bodyPost_ret (res102 (B := W.heap.size + 1 + 1) rfl (put3_same r gR)) rfl ⟨put3_below r EX (by omega), rfl⟩
set_option maxRecDepth 20000 in
set_option maxHeartbeats 4000000 in
theorem mnext_4no (B T tc nt i : Nat) (v y r : Vl) (er : Int) (ks vs : Value) (W : World) (c3 : W.cell? ⟨B, 3, none⟩ = some (.slice (some ⟨T, 0, none⟩) nt tc)) (hi : i < nt) (hn : nt ≤ 1000) (hv : v.k = 4) (hvn : v.n = (i : Nat))
    (d0 : W.cell? ⟨T, i * 2, none⟩ = some ks) (d1 : W.cell? ⟨T, i * 2 + 1, none⟩ = some vs)
    (hT : ∀ w2, Below W.heap.size W w2 → Calls Tryz.prog 120 #[.agg #[ks, vs], y.v] w2 fun e w' => e = .returned (.tuple #[r.v, .int .i64 er]) ∧ Below w2.heap.size w2 w') (he : (er != 0) = true) :
    Calls Tryz.prog 102 #[.pointer (some ⟨B, 0, none⟩), v.v, y.v] W (VQ W (.inl er)) := by
  have hB := World.block_lt_of_cell? _ _ c3
  have hTl := World.block_lt_of_cell? _ _ d0
  simp only at hB hTl
  obtain ⟨w1, hw1⟩ : ∃ w1, ((W.alloc (.cells #[.int .i64 v.k, .int .i64 v.n, .string v.s] 30)).alloc (.cells #[.int .i64 y.k, .int .i64 y.n, .string y.s] 30)).alloc (.cells #[.int .i64 0, .int .i64 0, .string ⟨#[]⟩] 30) = w1 := ⟨_, rfl⟩
  obtain ⟨E0, g0, g1, g2, hz⟩ := three_boxes W v y hw1
  obtain ⟨b0, b1, b2, _, _, _⟩ := in3 g1
  obtain ⟨p0, p1, p2, _, _, _⟩ := in3 g2
  have k0 := (E0.cell (p := ⟨T, i * 2, none⟩) hTl).trans d0
  have k1 := (E0.cell (p := ⟨T, i * 2 + 1, none⟩) hTl).trans d1
  have hcl := fun w2 (hb : Below W.heap.size W w2) => table_yes B T tc nt i v.s w2 ((hb.cell (p := ⟨B, 3, none⟩) hB).trans c3) hi hn
  rw [← hv, ← hvn] at hcl
  have hS : ∀ u, Below w1.heap.size w1 u → u.cell? ⟨W.heap.size, 0, none⟩ = some (.int .i64 v.k) ∧ u.cell? ⟨W.heap.size, 1, none⟩ = some (.int .i64 v.n) ∧ u.cell? ⟨W.heap.size, 2, none⟩ = some (.string v.s) ∧ u.cell? ⟨W.heap.size + 1, 0, none⟩ = some (.int .i64 y.k) ∧ u.cell? ⟨W.heap.size + 1, 1, none⟩ = some (.int .i64 y.n) ∧ u.cell? ⟨W.heap.size + 1, 2, none⟩ = some (.string y.s) ∧ u.cell? ⟨T, i * 2, none⟩ = some ks ∧ u.cell? ⟨T, i * 2 + 1, none⟩ = some vs := fun u hb => ⟨cellB hb p0, cellB hb p1, cellB hb p2, cellB hb b0, cellB hb b1, cellB hb b2, cellB hb k0, cellB hb k1⟩
  replace hS : Hid _ := hS
  replace hT : Hid _ := hT
  replace hcl : Hid _ := hcl
  clear g2 g1 hv hvn c3 d0 d1
  have y1 : W.heap.size ≠ w1.heap.size := by omega
  have y2 : W.heap.size + 1 ≠ w1.heap.size := by omega
  have y3 : T ≠ w1.heap.size := by omega
  have y4 : W.heap.size + 1 + 1 ≠ w1.heap.size := by omega
  go_enter Tryz.func102, Tryz.ntmps102
  go_wp2
  go_region_held3 (fun u => u.cell? ⟨W.heap.size, 0, none⟩ = some (.int .i64 v.k) ∧ u.cell? ⟨W.heap.size, 1, none⟩ = some (.int .i64 v.n) ∧ u.cell? ⟨W.heap.size, 2, none⟩ = some (.string v.s) ∧ u.cell? ⟨W.heap.size + 1, 0, none⟩ = some (.int .i64 y.k) ∧ u.cell? ⟨W.heap.size + 1, 1, none⟩ = some (.int .i64 y.n) ∧ u.cell? ⟨W.heap.size + 1, 2, none⟩ = some (.string y.s) ∧ u.cell? ⟨T, i * 2, none⟩ = some ks ∧ u.cell? ⟨T, i * 2 + 1, none⟩ = some vs) (first | go_keep | with_reducible exact ⟨(k3 x1).trans s0, (k3 x1).trans s1, (k3 x1).trans s2, (k3 x2).trans s3, (k3 x2).trans s4, (k3 x2).trans s5, (k3 x3).trans s6, (k3 x3).trans s7⟩ | with_reducible exact ⟨(k3 y1).trans s0, (k3 y1).trans s1, (k3 y1).trans s2, (k3 y2).trans s3, (k3 y2).trans s4, (k3 y2).trans s5, (k3 y3).trans s6, (k3 y3).trans s7⟩) (first | (go_at_call 116; refine (hcl.out _ (by repeat (first | with_reducible exact E0 | with_reducible refine ext_drew ?_ | with_reducible refine ext_alloc ?_ _))).mono ?_; rintro e w2 ⟨rfl, hb2⟩; have E2 := ext_trans (show Below W.heap.size W _ from (by repeat (first | with_reducible exact E0 | with_reducible refine ext_drew ?_ | with_reducible refine ext_alloc ?_ _))) hb2; have N2 := ext_trans (show Below w1.heap.size w1 _ from (by repeat (first | with_reducible exact (Below.refl _ _) | with_reducible refine ext_drew ?_ | with_reducible refine ext_alloc ?_ _))) hb2; (try (have gA : w2.heap[w1.drew.heap.size]? = some (.cells #[.int .i64 0, .int .i64 0, .string ⟨#[]⟩] 30) := (by with_reducible exact block_below hb2 (heap_new _ _)); replace gA : w2.heap[w1.heap.size]? = some (bx nilV) := gA)); have Z2 := N2.size; have x1 : W.heap.size ≠ w2.heap.size := (by omega); have x2 : W.heap.size + 1 ≠ w2.heap.size := (by omega); have x3 : T ≠ w2.heap.size := (by omega); have x4 : W.heap.size + 1 + 1 ≠ w2.heap.size := (by omega); obtain ⟨s0, s1, s2, s3, s4, s5, s6, s7⟩ := hS.out w2 N2) | (go_at_call 120; refine (hT.out _ (by repeat (first | with_reducible exact E2 | with_reducible refine ext_drew ?_ | with_reducible refine ext_alloc ?_ _))).mono ?_; rintro e w3 ⟨rfl, hb3⟩; have E3 := ext_trans (show Below W.heap.size W _ from (by repeat (first | with_reducible exact E2 | with_reducible refine ext_drew ?_ | with_reducible refine ext_alloc ?_ _))) hb3; have N3 := ext_trans (show Below w1.heap.size w1 _ from (by repeat (first | with_reducible exact N2 | with_reducible refine ext_drew ?_ | with_reducible refine ext_alloc ?_ _))) hb3; (try (have gD : w3.heap[w1.heap.size]? = some (bx nilV) := (by with_reducible exact block_below hb3 gA); obtain ⟨m0, m1, m2, n0, n1, n2⟩ := in3 gD)); (try (have gC : w3.heap[w2.heap.size]? = some (.cells #[.int .i64 0, .int .i64 0, .string ⟨#[]⟩] 30) := (by with_reducible exact block_below hb3 (heap_new _ _)); replace gC : w3.heap[w2.heap.size]? = some (bx nilV) := gC; obtain ⟨m0, m1, m2, n0, n1, n2⟩ := in3 gC)); have g3 := block_below N3 g0; obtain ⟨a0, a1, a2, f0, f1, f2⟩ := in3 g3; obtain ⟨s0, s1, s2, s3, s4, s5, s6, s7⟩ := hS.out w3 N3))
  · obtain ⟨X, hX⟩ : ∃ X, w3.alloc (.cells #[.int .i64 r.k, .int .i64 r.n, .string r.s] 30) = X := ⟨_, rfl⟩
    have EX : Below W.heap.size W X := by rw [← hX]; exact ext_alloc E3 _
    have gK : X.heap[w3.heap.size]? = some (bx r) := by rw [← hX]; exact heap_new _ _
    have gR : X.heap[W.heap.size + 1 + 1]? = some (bx nilV) := by rw [← hX]; exact block_alloc _ g3
    rw [hX]
    clear hX
    obtain ⟨u0, u1, u2, _, _, _⟩ := in3 gK
    obtain ⟨v0, v1, v2, o0, o1, o2⟩ := in3 gR
    go_wp2_with (go_at_call 114; refine (need_no er _ he).mono ?_; rintro e w' ⟨rfl, rfl⟩)
    exact ⟨rfl, EX, rfl⟩
  · obtain ⟨X, hX⟩ : ∃ X, ((w3.setCell ⟨w2.heap.size, 0, none⟩ (.int .i64 r.k)).setCell ⟨w2.heap.size, 1, none⟩ (.int .i64 r.n)).setCell ⟨w2.heap.size, 2, none⟩ (.string r.s) = X := ⟨_, rfl⟩
    have EX : Below W.heap.size W X := by rw [← hX]; exact put3_below r E3 (by omega)
    have gK : X.heap[w2.heap.size]? = some (bx r) := by rw [← hX]; exact put3_same r gC
    have gR : X.heap[W.heap.size + 1 + 1]? = some (bx nilV) := by rw [← hX]; exact (put3_other _ r x4).trans g3
    rw [hX]
    clear hX
    obtain ⟨u0, u1, u2, _, _, _⟩ := in3 gK
    obtain ⟨v0, v1, v2, o0, o1, o2⟩ := in3 gR
    go_wp2_with (go_at_call 114; refine (need_no er _ he).mono ?_; rintro e w' ⟨rfl, rfl⟩)
    exact ⟨rfl, EX, rfl⟩
  · obtain ⟨X, hX⟩ : ∃ X, ((w3.setCell ⟨w1.heap.size, 0, none⟩ (.int .i64 r.k)).setCell ⟨w1.heap.size, 1, none⟩ (.int .i64 r.n)).setCell ⟨w1.heap.size, 2, none⟩ (.string r.s) = X := ⟨_, rfl⟩
    have EX : Below W.heap.size W X := by rw [← hX]; exact put3_below r E3 (by omega)
    have gK : X.heap[w1.heap.size]? = some (bx r) := by rw [← hX]; exact put3_same r gD
    have gR : X.heap[W.heap.size + 1 + 1]? = some (bx nilV) := by rw [← hX]; exact (put3_other _ r y4).trans g3
    rw [hX]
    clear hX
    obtain ⟨u0, u1, u2, _, _, _⟩ := in3 gK
    obtain ⟨v0, v1, v2, o0, o1, o2⟩ := in3 gR
    go_wp2_with (go_at_call 114; refine (need_no er _ he).mono ?_; rintro e w' ⟨rfl, rfl⟩)
    exact ⟨rfl, EX, rfl⟩
end Go.Proofs.YthdhgfpidhbdiaaGreatDoor
