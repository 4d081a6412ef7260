/- The program's reader: tokens are read, or it tells where they are wrong. How deep a node is, of how many: as the program reckons it. How deep a node is, of how many: as the document reckons it. -/
import Derived.Test.YtbofdfdmikhanaaGreatDoorJ35
import Derived.Test.YtbofdfdmikhanaaGreatDoorJ37
import Derived.Test.YtbofdfdmikhanaaGreatDoorJ14
namespace Go.Proofs.YtbofdfdmikhanaaGreatDoor
open Go.RowKit
open Go

/-- Where that is. -/
def fpos (ts : List Tok) (sz : Nat) (i : Nat) : Nat := match ts[i]? with
  | some x => x.a
  | none => sz
theorem TokAt.mono {W : World} {b : Option Addr} {ts : List Tok} {l1 l2 : Nat} (h : TokAt W b ts l1) (hl : l1 ≤ l2) : TokAt W b ts l2 := by
  rcases h with h | ⟨g, e, h1, h2, h3⟩
  · exact .inl h
  · exact .inr ⟨g, e, by omega, h2, h3⟩
theorem TokAt.below {W W' : World} {b : Option Addr} {ts : List Tok} {l : Nat} (h : TokAt W b ts l) (hb : Below W.heap.size W W') : TokAt W' b ts l := h.keep (Keeps.of_below (S := no) hb) (fun _ _ => id)
abbrev pu2 (W : World) (B : Nat) (a b : Value) : World := (W.setCell ⟨B, 0, none⟩ a).setCell ⟨B, 1, none⟩ b
theorem pu2_self (W : World) (B : Nat) (a b : Value) : Keeps (fun k => k = B) W (pu2 W B a b) := ((Keeps.refl (fun k => k = B) W).set B 0 a (fun _ => rfl)).set B 1 b (fun _ => rfl)
theorem pu2_same {W : World} {B : Nat} {a b : Value} (a' b' : Value) (h : W.heap[B]? = some (.cells #[a, b] 27)) : (pu2 W B a' b').heap[B]? = some (.cells #[a', b'] 27) := set_block _ (set_block _ h)
theorem pu2_other {W : World} {B C : Nat} (a b : Value) (h : C ≠ B) : (pu2 W B a b).heap[C]? = W.heap[C]? := (set1_other _ _ h).trans (set1_other _ _ h)
theorem res13 {tm : Array Value} {W : World} {B C : Nat} {a b c d x y : Value} (h : tm[4]?.getD undef = .pointer (some ⟨B, 0, none⟩)) (h' : tm[5]?.getD undef = .pointer (some ⟨C, 0, none⟩)) (hx : W.heap[B]? = some (.cells #[a, b, c, d] 24)) (hy : W.heap[C]? = some (.cells #[x, y] 27)) : (results Tryz.f13 tm).run Tryz.prog W = .ok (.tuple #[.agg #[a, b, c, d], .agg #[x, y]]) W := by
  obtain ⟨c0, c1, c2, c3, _, _, _, _⟩ := in4 hx
  have d0 : W.cell? ⟨C, 0, none⟩ = some x := cell_block hy rfl
  have d1 : W.cell? ⟨C, 1, none⟩ = some y := cell_block hy rfl
  simp [results, Tryz.results13, go_sem, h, h', c0, c1, c2, c3, d0, d1]
/-- The boxes of read. -/
structure RB (w U : World) (sz : Nat) : Prop where
  g0 : U.heap[w.heap.size]? = some (.cells #[.int .i64 (sz : Nat)] 3)
  g1 : U.heap[w.heap.size + 1]? = some zbx
  g2 : U.heap[w.heap.size + 1 + 1]? = some (.cells #[.int .i64 0, .int .i64 0] 27)
  lt : w.heap.size + 1 + 1 < U.heap.size
theorem RB.keep {w U U' : World} {sz : Nat} {S : Nat → Prop} (h : RB w U sz) (hk : Keeps S U U') (hs : ∀ g, g ≤ w.heap.size + 1 + 1 → ¬ S g) : RB w U' sz := by
  have := h.lt
  have := hk.size
  exact ⟨hk.box h.g0 (hs _ (by omega)), hk.box h.g1 (hs _ (by omega)), hk.box h.g2 (hs _ (by omega)), by omega⟩
theorem rb_new (w : World) (sz : Nat) : RB w (((w.alloc (.cells #[.int .i64 (sz : Nat)] 3)).alloc zbx).alloc (.cells #[.int .i64 0, .int .i64 0] 27)) sz ∧ Below w.heap.size w (((w.alloc (.cells #[.int .i64 (sz : Nat)] 3)).alloc zbx).alloc (.cells #[.int .i64 0, .int .i64 0] 27)) := by
  have h0 := alloc_new w (.cells #[.int .i64 (sz : Nat)] 3)
  have h1 := alloc_new (w.alloc (.cells #[.int .i64 (sz : Nat)] 3)) zbx
  have h2 := alloc_new ((w.alloc (.cells #[.int .i64 (sz : Nat)] 3)).alloc zbx) (.cells #[.int .i64 0, .int .i64 0] 27)
  rw [World.size_alloc] at h1
  rw [World.size_alloc, World.size_alloc] at h2
  exact ⟨⟨block_alloc _ (block_alloc _ h0), block_alloc _ h1, h2, by simp⟩, ext_alloc (ext_alloc (ext_alloc (Below.refl _ _) _) _) _⟩
set_option maxRecDepth 20000 in
set_option maxHeartbeats 1000000 in
theorem read_ok (ts : List Tok) (b : Option Addr) (cap sz : Nat) (n : Nd) (l : List PT) (w : World) (hV : allV (ts.map pt)) (hT : TokAt w b ts w.heap.size) (hsp : SpTab w) (hsh : ts.length ≤ 4000) (hcap : ts.length ≤ cap) (hP : P 64012 12 (nd 1 []) 0 (ts.map pt) = some (.inr (n, l))) :
    Calls Tryz.prog 13 #[.slice b ts.length cap, .int .i64 (sz : Nat)] w fun e w' => ∃ b1 cap1, e = .returned (.tuple #[ndv n b1 cap1, .agg #[.int .i64 0, .int .i64 0]]) ∧ NdV (fun g => w.heap.size ≤ g) w' n (ndv n b1 cap1) ∧ Below w.heap.size w w' := by
  have hmf : ∀ (fn : Fn) (first cap : Array Value) (w : World), (Instr.makeFunc fn first cap).run Tryz.prog w = .ok (.func fn first cap) w := fun _ _ _ _ => rfl
  obtain ⟨hRB, hb0⟩ := rb_new w sz
  have hT0 := hT.below hb0
  have hsp0 := hsp.below hb0
  obtain ⟨U, hU⟩ : ∃ U, ((w.alloc (.cells #[.int .i64 (sz : Nat)] 3)).alloc zbx).alloc (.cells #[.int .i64 0, .int .i64 0] 27) = U := ⟨_, rfl⟩
  rw [hU] at hRB hb0 hT0 hsp0
  replace hU : ((w.alloc (.cells #[.int .i64 (sz : Nat)] 3)).alloc (.cells #[.int .i64 0, .string ⟨#[]⟩, .int .i64 0, .slice none 0 0] 24)).alloc (.cells #[.int .i64 0, .int .i64 0] 27) = U := hU
  have hNW := newWords_any U hsp0
  clear hT hsp
  obtain ⟨L, hL⟩ : ∃ L, ts.length = L := ⟨_, rfl⟩
  rw [hL]
  go_enter_defers Tryz.func13, Tryz.ntmps13
  go_wp2_with (go_at_call 18; refine hNW.mono ?_; rintro e w1 ⟨m1, m2, m3, m4, m5, rfl, hWd, hb1⟩; refine Hid.out ?_)
  have hb2 := ext_alloc (Below.refl w1.heap.size w1) (rbx m1 m2 m3 m4 m5 b L cap 0)
  have hC : Ctx (w1.alloc (rbx m1 m2 m3 m4 m5 b L cap 0)) w1.heap.size ts 0 := by
    refine ⟨hV, ⟨m1, m2, m3, m4, m5, b, cap, hL ▸ alloc_new w1 _, ?_, ?_, hcap⟩, Nat.zero_le _, hsh⟩
    · exact ((hT0.below hb1).below hb2).mono (by have := hb0.size; have := hb1.size; omega)
    · exact hWd.keep (Keeps.of_below (S := no) hb2) (fun _ _ => id)
  have hRB2 := (hRB.keep (Keeps.of_below (S := no) hb1) (fun _ _ => id)).keep (Keeps.of_below (S := no) hb2) (fun _ _ => id)
  have hbw := ext_trans (ext_trans hb0 hb1) hb2
  have hUn := read_unit _ w1.heap.size ts _ hC hP
  have hz : w.heap.size + 1 + 1 < w1.heap.size := by have := hRB.lt; have := hb1.size; omega
  refine Lib.hid ?_
  go_wp2_with (go_at_call 27; refine Hid.out ?_)
  obtain ⟨B, hB⟩ : ∃ B, w1.heap.size = B := ⟨_, rfl⟩
  obtain ⟨W, hW⟩ : ∃ W, w1.alloc (rbx m1 m2 m3 m4 m5 b L cap 0) = W := ⟨_, rfl⟩
  rw [hW] at hUn hRB2 hbw hC
  rw [hB] at hUn hC hz
  have hBW := hC.R.lt
  clear hU hNW hT0 hsp0 hRB hb0 hWd hb1 hb2 hP
  rw [hW, hB]
  clear hW hB
  refine Lib.hid ?_
  go_wp2_with (go_at_call 27; refine hUn.mono ?_; rintro e w2 ⟨i, b1, cap1, hi, rfl, hN, hR, hk⟩; have hRB3 := hRB2.keep (S := fun q => q = B) hk (fun q hq e => by omega); obtain ⟨c0, c1, c2, c3, f0, f1, f2, f3⟩ := in4 hRB3.g1; have d0 : w2.cell? ⟨w.heap.size + 1 + 1, 0, none⟩ = some (.int .i64 0) := cell_block hRB3.g2 rfl; have d1 : w2.cell? ⟨w.heap.size + 1 + 1, 1, none⟩ = some (.int .i64 0) := cell_block hRB3.g2 rfl; have e0 : w2.frozen? ⟨w.heap.size + 1 + 1, 0, none⟩ = false := frozen_block hRB3.g2; have e1 : w2.frozen? ⟨w.heap.size + 1 + 1, 1, none⟩ = false := frozen_block hRB3.g2)
  have x1 : (pu2 (put4 w2 (w.heap.size + 1) (.int .i64 n.k) (sk n.t) (.int .i64 n.n) (.slice b1 n.kids.length cap1)) (w.heap.size + 1 + 1) (.int .i64 0) (.int .i64 0)).heap[w.heap.size + 1]? = some (nbx n b1 cap1) := (pu2_other _ _ (by omega)).trans (put4_same _ _ _ _ hRB3.g1)
  have x2 : (pu2 (put4 w2 (w.heap.size + 1) (.int .i64 n.k) (sk n.t) (.int .i64 n.n) (.slice b1 n.kids.length cap1)) (w.heap.size + 1 + 1) (.int .i64 0) (.int .i64 0)).heap[w.heap.size + 1 + 1]? = some (.cells #[.int .i64 0, .int .i64 0] 27) := pu2_same _ _ ((put4_other _ _ _ _ (by omega)).trans hRB3.g2)
  have hkF : Keeps (fun q => q = w.heap.size + 1 ∨ q = w.heap.size + 1 + 1) w2 (pu2 (put4 w2 (w.heap.size + 1) (.int .i64 n.k) (sk n.t) (.int .i64 n.n) (.slice b1 n.kids.length cap1)) (w.heap.size + 1 + 1) (.int .i64 0) (.int .i64 0)) := ((put4_self _ _ _ _ _ _).mono (fun q _ e => .inl e)).then (pu2_self _ _ _ _) (fun q _ e => .inr e)
  have hKF := ((Keeps.of_below (S := no) hbw).then hk (fun q hq e => by omega)).then hkF (fun q hq e => by omega)
  refine leaves_cons (f := 26) (args := #[.pointer (some ⟨w.heap.size + 1 + 1, 0, none⟩), .pointer (some ⟨w.heap.size, 0, none⟩)]) (by simp) (by simp [go_sem]) ?_
  refine (catch_idle _ _ _).mono ?_
  rintro e u' w'' ⟨rfl, rfl, rfl⟩
  refine ⟨_, res13 rfl rfl x1 x2, b1, cap1, rfl, ?_, hKF.below (Nat.le_refl _) (fun _ _ => id)⟩
  exact (hN.keep hkF (fun q hq _ e => by rcases hq with hq | hq; exact hq; have := hRB2.lt; omega)).weak (fun q hq _ => by rcases hq with hq | hq; exact hq.elim; have := hRB2.lt; omega)
set_option maxRecDepth 20000 in
set_option maxHeartbeats 1000000 in
theorem read_no (ts : List Tok) (b : Option Addr) (cap sz : Nat) (l : List PT) (w : World) (hV : allV (ts.map pt)) (hT : TokAt w b ts w.heap.size) (hsp : SpTab w) (hsh : ts.length ≤ 4000) (hcap : ts.length ≤ cap) (hP : P 64012 12 (nd 1 []) 0 (ts.map pt) = some (.inl l)) :
    Calls Tryz.prog 13 #[.slice b ts.length cap, .int .i64 (sz : Nat)] w fun e w' => ∃ i, rest ts i = l ∧ i ≤ ts.length ∧ e = .returned (.tuple #[.agg #[.int .i64 0, .string ⟨#[]⟩, .int .i64 0, .slice none 0 0], .agg #[.int .i64 2, .int .i64 (fpos ts sz i : Nat)]]) ∧ Below w.heap.size w w' := by
  have hmf : ∀ (fn : Fn) (first cap : Array Value) (w : World), (Instr.makeFunc fn first cap).run Tryz.prog w = .ok (.func fn first cap) w := fun _ _ _ _ => rfl
  obtain ⟨hRB, hb0⟩ := rb_new w sz
  have hT0 := hT.below hb0
  have hsp0 := hsp.below hb0
  obtain ⟨U, hU⟩ : ∃ U, ((w.alloc (.cells #[.int .i64 (sz : Nat)] 3)).alloc zbx).alloc (.cells #[.int .i64 0, .int .i64 0] 27) = U := ⟨_, rfl⟩
  rw [hU] at hRB hb0 hT0 hsp0
  replace hU : ((w.alloc (.cells #[.int .i64 (sz : Nat)] 3)).alloc (.cells #[.int .i64 0, .string ⟨#[]⟩, .int .i64 0, .slice none 0 0] 24)).alloc (.cells #[.int .i64 0, .int .i64 0] 27) = U := hU
  have hNW := newWords_any U hsp0
  clear hT hsp
  obtain ⟨L, hL⟩ : ∃ L, ts.length = L := ⟨_, rfl⟩
  rw [hL]
  go_enter_defers Tryz.func13, Tryz.ntmps13
  go_wp2_with (go_at_call 18; refine hNW.mono ?_; rintro e w1 ⟨m1, m2, m3, m4, m5, rfl, hWd, hb1⟩; refine Hid.out ?_)
  have hb2 := ext_alloc (Below.refl w1.heap.size w1) (rbx m1 m2 m3 m4 m5 b L cap 0)
  have hC : Ctx (w1.alloc (rbx m1 m2 m3 m4 m5 b L cap 0)) w1.heap.size ts 0 := by
    refine ⟨hV, ⟨m1, m2, m3, m4, m5, b, cap, hL ▸ alloc_new w1 _, ?_, ?_, hcap⟩, Nat.zero_le _, hsh⟩
    · exact ((hT0.below hb1).below hb2).mono (by have := hb0.size; have := hb1.size; omega)
    · exact hWd.keep (Keeps.of_below (S := no) hb2) (fun _ _ => id)
  have hRB2 := (hRB.keep (Keeps.of_below (S := no) hb1) (fun _ _ => id)).keep (Keeps.of_below (S := no) hb2) (fun _ _ => id)
  have hbw := ext_trans (ext_trans hb0 hb1) hb2
  have hUn := read_unit _ w1.heap.size ts _ hC hP
  have hz : w.heap.size + 1 + 1 < w1.heap.size := by have := hRB.lt; have := hb1.size; omega
  refine Lib.hid ?_
  go_wp2_with (go_at_call 27; refine Hid.out ?_)
  obtain ⟨B, hB⟩ : ∃ B, w1.heap.size = B := ⟨_, rfl⟩
  obtain ⟨W, hW⟩ : ∃ W, w1.alloc (rbx m1 m2 m3 m4 m5 b L cap 0) = W := ⟨_, rfl⟩
  rw [hW] at hUn hRB2 hbw hC
  rw [hB] at hUn hC hz
  have hBW := hC.R.lt
  clear hU hNW hT0 hsp0 hRB hb0 hWd hb1 hb2 hP
  rw [hW, hB]
  clear hW hB
  refine Lib.hid ?_
  go_wp2_with (go_at_call 27; refine hUn.mono ?_; rintro e w2 ⟨i, hi, hle, rfl, hk⟩; have hRB3 := hRB2.keep (S := fun q => q = B) hk (fun q hq e => by omega))
  have hKW := (Keeps.of_below (S := no) hbw).then hk (fun q hq e => by omega)
  unfold gv
  have hq : w2.cell? ⟨w.heap.size, 0, none⟩ = some (.int .i64 (sz : Nat)) := cell_block hRB3.g0 rfl
  cases hx : ts[i]? with
  | some x =>
    have hv : fpos ts sz i = x.a := by unfold fpos; rw [hx]
    simp only
    refine leaves_cons (f := 26) (args := #[.pointer (some ⟨w.heap.size + 1 + 1, 0, none⟩), .pointer (some ⟨w.heap.size, 0, none⟩)]) (by simp) (by simp [go_sem]) ?_
    refine (catch_stray _ _ _ _ _ _ _ hRB3.g2).mono ?_
    rintro e u' w'' ⟨rfl, rfl, rfl⟩
    have xb := ext_alloc (Below.refl _ (pu2 w2 (w.heap.size + 1 + 1) (.int .i64 2) (.int .i64 (x.a : Nat)))) (.cells #[.int .i64 (x.a : Nat)] 62)
    have x1 := block_below xb ((pu2_other (W := w2) (C := w.heap.size + 1) (.int .i64 2) (.int .i64 (x.a : Nat)) (by omega)).trans hRB3.g1)
    have x2 := block_below xb (pu2_same (.int .i64 2) (.int .i64 (x.a : Nat)) hRB3.g2)
    refine ⟨_, res13 rfl rfl x1 x2, i, hi, hL ▸ hle, by rw [hv], ?_⟩
    exact ((hKW.then (pu2_self _ _ _ _) (fun q hq e => by omega)).trans (Keeps.of_below xb)).below (Nat.le_refl _) (fun _ _ => id)
  | none =>
    have hv : fpos ts sz i = sz := by unfold fpos; rw [hx]
    simp only
    refine leaves_cons (f := 26) (args := #[.pointer (some ⟨w.heap.size + 1 + 1, 0, none⟩), .pointer (some ⟨w.heap.size, 0, none⟩)]) (by simp) (by simp [go_sem]) ?_
    refine (catch_ended _ _ _ _ _ _ _ hRB3.g2 hq ⟨_, rfl⟩).mono ?_
    rintro e u' w'' ⟨rfl, rfl, rfl⟩
    have xb := ext_alloc (Below.refl _ (pu2 w2 (w.heap.size + 1 + 1) (.int .i64 2) (.int .i64 (sz : Nat)))) (.cells #[] 64)
    have x1 := block_below xb ((pu2_other (W := w2) (C := w.heap.size + 1) (.int .i64 2) (.int .i64 (sz : Nat)) (by omega)).trans hRB3.g1)
    have x2 := block_below xb (pu2_same (.int .i64 2) (.int .i64 (sz : Nat)) hRB3.g2)
    refine ⟨_, res13 rfl rfl x1 x2, i, hi, hL ▸ hle, by rw [hv], ?_⟩
    exact ((hKW.then (pu2_self _ _ _ _) (fun q hq e => by omega)).trans (Keeps.of_below xb)).below (Nat.le_refl _) (fun _ _ => id)
end Go.Proofs.YtbofdfdmikhanaaGreatDoor
namespace Go.Proofs.YtbofdfdmikhanaaGreatDoor
open Go.RowKit
open Go

theorem deep_app (a b : List Nd) : deepN.go (a ++ b) = max (deepN.go a) (deepN.go b) := by
  induction a with
  | nil => simp [deepN.go]
  | cons x l ih => simp only [List.cons_append, deepN.go, ih]; omega
theorem many_app (a b : List Nd) : manyN.go (a ++ b) = manyN.go a + manyN.go b := by
  induction a with
  | nil => simp [manyN.go]
  | cons x l ih => simp only [List.cons_append, manyN.go, ih]; omega
theorem kids_split {ks : List Nd} {j : Nat} {y : Nd} (h : ks[j]? = some y) : ks = ks.take j ++ y :: ks.drop (j + 1) := by
  obtain ⟨hj, rfl⟩ := List.getElem?_eq_some_iff.1 h
  rw [← List.drop_eq_getElem_cons hj, List.take_append_drop]
theorem take_next {ks : List Nd} {j : Nat} {y : Nd} (h : ks[j]? = some y) : ks.take (j + 1) = ks.take j ++ [y] := by
  rw [List.take_add_one, h]; rfl
theorem deepN_eq (n : Nd) : deepN n = deepN.go n.kids + 1 := by cases n; rfl
theorem manyN_eq (n : Nd) : manyN n = manyN.go n.kids + 1 := by cases n; rfl
theorem many_len (l : List Nd) : l.length ≤ manyN.go l := by
  induction l with
  | nil => simp
  | cons x l ih =>
    have : 1 ≤ manyN x := by rw [manyN_eq]; omega
    simp only [manyN.go, List.length_cons]
    omega
/-- What is left over. -/
def spZ (d m : Nat) (n : Nd) : Int := if deepN n ≤ d ∧ manyN n ≤ m then (m : Int) - (manyN n : Nat) else -1
theorem spZ_no {d m : Nat} {n : Nd} (h : ¬ (deepN n ≤ d ∧ manyN n ≤ m)) : spZ d m n = -1 := if_neg h
/-- A kid, as it is read. -/
theorem ndAt_val {S : Nat → Prop} {W : World} {y : Nd} {c : Nat → Option Value} (h : NdAt S W y c) : ∃ b cap, c 0 = some (.int .i64 y.k) ∧ c 1 = some (sk y.t) ∧ c 2 = some (.int .i64 y.n) ∧ c 3 = some (.slice b y.kids.length cap) ∧ NdV S W y (ndv y b cap) := by
  obtain ⟨k, t, n, kids⟩ := y
  rw [NdAt] at h
  obtain ⟨h0, h1, h2, b, cap, h3, h4, h5⟩ := h
  refine ⟨b, cap, h0, h1, h2, h3, _, _, _, _, rfl, ?_⟩
  rw [NdAt]
  exact ⟨rfl, rfl, rfl, b, cap, rfl, h4, h5⟩
theorem res28 {tm : Array Value} {W : World} {v : Value} (h : tm[6]?.getD undef = v) : (results Tryz.f28 tm).run Tryz.prog W = .ok v W := by
  simp [results, Tryz.results28, go_sem, h]
set_option maxRecDepth 20000 in
set_option maxHeartbeats 1000000 in
theorem spare_any (d : Nat) : d ≤ 14 → ∀ (m : Nat) (S : Nat → Prop) (n : Nd) (b : Option Addr) (cap : Nat) (w : World), m ≤ 600 → NdV S w n (ndv n b cap) → Calls Tryz.prog 28 #[ndv n b cap, .int .i64 (d : Nat), .int .i64 (m : Nat)] w fun e w' => e = .returned (.int .i64 (spZ d m n)) ∧ Below w.heap.size w w' := by
  induction d with
  | zero =>
    intro _ m S n b cap w hm hn
    rw [spZ_no (by rw [deepN_eq]; omega)]
    go_enter Tryz.func28, Tryz.ntmps28
    go_wp2
    exact bodyPost_ret (res28 rfl) rfl ⟨rfl, ext_alloc (Below.refl _ _) _⟩
  | succ d ih =>
    intro hd m S n b cap w hm hn
    have hq1 : ((d : Int) + 1 == 0) = false := by simp; omega
    by_cases h0 : m = 0
    · subst h0
      rw [spZ_no (by rw [manyN_eq]; omega)]
      go_enter Tryz.func28, Tryz.ntmps28
      go_wp2
      exact bodyPost_ret (res28 rfl) rfl ⟨rfl, ext_alloc (Below.refl _ _) _⟩
    obtain ⟨k, rfl⟩ : ∃ k, m = k + 1 := ⟨m - 1, by omega⟩
    have hq2 : ((k : Int) + 1 == 0) = false := by simp; omega
    rw [show ((d + 1 : Nat) : Int) = (d : Int) + 1 by omega, show ((k + 1 : Nat) : Int) = (k : Int) + 1 by omega]
    obtain ⟨b2, cap2, e2, hcap, hkids⟩ := hn.form
    have e3 : b2 = b ∧ cap2 = cap := by
      simp only [Value.agg.injEq, Array.mk.injEq, List.cons.injEq, Value.slice.injEq, and_true, true_and] at e2
      exact ⟨e2.1.symm, e2.2.symm⟩
    obtain ⟨rfl, rfl⟩ := e3
    have hds : deepN n = deepN.go n.kids + 1 := deepN_eq n
    have hms : manyN n = manyN.go n.kids + 1 := manyN_eq n
    obtain ⟨ks, hks⟩ : ∃ ks, n.kids = ks := ⟨_, rfl⟩
    rw [hks] at hds hms hcap hkids
    have hlen : n.kids.length = ks.length := by rw [hks]
    obtain ⟨L, hL⟩ : ∃ L, ks.length = L := ⟨_, rfl⟩
    rw [hL] at hlen hcap
    obtain ⟨V, hV⟩ : ∃ V, spZ (d + 1) (k + 1) n = V := ⟨_, rfl⟩
    rw [hV]
    have hb0 := ext_alloc (Below.refl w.heap.size w) (.cells #[.int .i64 n.k, sk n.t, .int .i64 n.n, .slice b2 L cap2] 24)
    clear e2 hn
    replace hds : Hid _ := hds
    replace hms : Hid _ := hms
    replace hV : Hid _ := hV
    replace hL : Hid _ := hL
    replace hks : Hid _ := hks
    replace hkids : Hid _ := hkids
    go_enter Tryz.func28, Tryz.ntmps28
    go_wp2
    go_loopw [2, 20] (fun nn ix wr => ∃ j k' : Nat, j ≤ L ∧ ix = .int .i64 (j : Nat) ∧ nn = .int .i64 (k' : Nat) ∧ k' + manyN.go (ks.take j) = k ∧ deepN.go (ks.take j) ≤ d ∧ Below w.heap.size w wr) (fun _ ix _ => L - (intOf ix).toNat)
    case atStart => exact ⟨0, k, by omega, rfl, by go_num, by simp [manyN.go], by simp [deepN.go], hb0⟩
    case round =>
      obtain ⟨j, k', hj, rfl, rfl, hs, hdp, hbw⟩ := hrel
      replace hs : Hid _ := hs
      replace hdp : Hid _ := hdp
      by_cases hlt : j < L
      · have hlt' : (j : Int) < (L : Int) := by omega
        obtain ⟨y, hy⟩ : ∃ y, ks[j]? = some y := ⟨_, List.getElem?_eq_getElem (show j < ks.length by have := hL.out; omega)⟩
        rcases hkids.out with h | ⟨g, off, rfl, hSg, hkd⟩
        · rw [h] at hy
          simp at hy
        obtain ⟨b', cap', v0, v1, v2, v3, hyV⟩ := ndAt_val (hkd j y hy)
        have c0 : wr.cell? ⟨g, off + j * 4, none⟩ = some (.int .i64 y.k) := cellB hbw v0
        have c1 := cellB hbw v1
        have c2 := cellB hbw v2
        have c3 := cellB hbw v3
        have hjk : j ≤ k := by
          have := many_len (ks.take j)
          have := hs.out
          have := hL.out
          simp at *
          omega
        have hk' : k' ≤ 600 := by have := hs.out; omega
        have hcall := ih (by omega) k' S y b' cap' (wr.alloc (nbx y b' cap')) hk' ((hyV.below hbw).below (ext_alloc (Below.refl _ _) _))
        have hbw1 := ext_alloc hbw (nbx y b' cap')
        by_cases hok : deepN y ≤ d ∧ manyN y ≤ k'
        · have e : spZ d k' y = ((k' - manyN y : Nat) : Int) := by unfold spZ; rw [if_pos hok]; omega
          rw [e] at hcall
          have hn1 : k' - manyN y + manyN.go (ks.take (j + 1)) = k := by
            have := hs.out
            rw [take_next hy, many_app]
            simp [manyN.go]
            omega
          have hn2 : deepN.go (ks.take (j + 1)) ≤ d := by
            have := hdp.out
            rw [take_next hy, deep_app]
            simp [deepN.go]
            omega
          obtain ⟨k2, hk2⟩ : ∃ k2, k' - manyN y = k2 := ⟨_, rfl⟩
          rw [hk2] at hcall hn1
          replace hn1 : Hid _ := hn1
          replace hn2 : Hid _ := hn2
          have hnn : ¬ (k2 : Int) < 0 := by omega
          clear v0 v1 v2 v3 hyV hy hkd hk2 e hok ih
          go_wp2_with (go_at_call 28; refine hcall.mono ?_; rintro e w1 ⟨rfl, hb1⟩)
          go_roundw
          case rel => exact ⟨j + 1, k2, by omega, by go_num, rfl, hn1.out, hn2.out, ext_trans hbw1 hb1⟩
          case measure => simp [intOf]; omega
        · have e : spZ d k' y = -1 := spZ_no hok
          rw [e] at hcall
          have hVm : V = -1 := by
            rw [← hV.out]
            refine spZ_no fun h => hok ?_
            have h1 := hs.out
            have h3 := hds.out
            have h4 := hms.out
            rw [kids_split hy, deep_app] at h3
            rw [kids_split hy, many_app] at h4
            simp only [deepN.go, manyN.go] at h3 h4
            omega
          subst hVm
          clear v0 v1 v2 v3 hyV hy hkd e hok ih
          go_wp2_with (go_at_call 28; refine hcall.mono ?_; rintro e w1 ⟨rfl, hb1⟩)
          exact bodyPost_ret (res28 rfl) rfl ⟨rfl, ext_trans hbw1 hb1⟩
      · have hge : ¬ (j : Int) < (L : Int) := by omega
        have : V = (k' : Int) := by
          have := hV.out
          have e : j = ks.length := by have := hL.out; omega
          have h1 := hs.out
          have h2 := hdp.out
          rw [e, List.take_length] at h1 h2
          have h3 := hds.out
          have h4 := hms.out
          unfold spZ at this
          rw [if_pos ⟨by omega, by omega⟩] at this
          omega
        subst this
        go_wp2
        exact bodyPost_ret (res28 rfl) rfl ⟨rfl, hbw⟩
end Go.Proofs.YtbofdfdmikhanaaGreatDoor
namespace Go.Proofs.YtbofdfdmikhanaaGreatDoor
open Go.RowKit
open Go

def fitB (n : Nd) : Bool := decide (deepN n ≤ 14 ∧ manyN n ≤ 600)
set_option maxRecDepth 20000 in
set_option maxHeartbeats 1000000 in
theorem fits_any (S : Nat → Prop) (n : Nd) (b : Option Addr) (cap : Nat) (w : World) (hn : NdV S w n (ndv n b cap)) : Calls Tryz.prog 14 #[ndv n b cap] w fun e w' => e = .returned (.bool (fitB n)) ∧ Below w.heap.size w w' := by
  have hb0 := ext_alloc (Below.refl w.heap.size w) (nbx n b cap)
  have hc := spare_any 14 (by omega) 600 S n b cap (w.alloc (nbx n b cap)) (by omega) (hn.below hb0)
  obtain ⟨c0, c1, c2, c3, _, _, _, _⟩ := in4 (alloc_new w (nbx n b cap))
  unfold fitB
  by_cases h : deepN n ≤ 14 ∧ manyN n ≤ 600
  · rw [decide_eq_true h]
    have e : spZ 14 600 n = ((600 - manyN n : Nat) : Int) := by unfold spZ; rw [if_pos h]; omega
    rw [e] at hc
    obtain ⟨v, hv⟩ : ∃ v, 600 - manyN n = v := ⟨_, rfl⟩
    rw [hv] at hc
    clear hv e
    have hv0 : (0 : Int) ≤ (v : Int) := by omega
    go_enter Tryz.func14, Tryz.ntmps14
    go_wp2_with (go_at_call 28; refine hc.mono ?_; rintro e w1 ⟨rfl, hb1⟩)
    go_ret
    exact ⟨rfl, ext_trans hb0 hb1⟩
  · rw [decide_eq_false h]
    rw [spZ_no h] at hc
    go_enter Tryz.func14, Tryz.ntmps14
    go_wp2_with (go_at_call 28; refine hc.mono ?_; rintro e w1 ⟨rfl, hb1⟩)
    go_ret
    exact ⟨rfl, ext_trans hb0 hb1⟩

def ManyC (n : Nd) : Prop := ∀ (m : Nat) (S : Nat → Prop) (b : Option Addr) (cap : Nat) (w : World), m ≤ 600 → NdV S w n (ndv n b cap) → Calls Tryz.prog 35 #[ndv n b cap, .int .i64 (m : Nat)] w fun e w' => e = .returned (.int .i64 ((min (manyN n) (m + 1) : Nat) : Int)) ∧ Below w.heap.size w w'
set_option maxRecDepth 20000 in
set_option maxHeartbeats 1000000 in
theorem many_step (k0 : Int) (t0 : List UInt8) (n0 : Int) (ks : List Nd) (ih : ∀ y ∈ ks, ManyC y) : ManyC ⟨k0, t0, n0, ks⟩ := by
  intro m S b cap w hm hn
  obtain ⟨b2, cap2, e2, hcap, hkids⟩ := hn.form
  simp only at e2 hcap hkids
  have e3 : b2 = b ∧ cap2 = cap := by
    simp only [Value.agg.injEq, Array.mk.injEq, List.cons.injEq, Value.slice.injEq, and_true, true_and] at e2
    exact ⟨e2.1.symm, e2.2.symm⟩
  obtain ⟨rfl, rfl⟩ := e3
  have hms : manyN ⟨k0, t0, n0, ks⟩ = manyN.go ks + 1 := rfl
  obtain ⟨V, hV⟩ : ∃ V, min (manyN ⟨k0, t0, n0, ks⟩) (m + 1) = V := ⟨_, rfl⟩
  rw [hV]
  rw [hms] at hV
  dsimp only [ndv]
  obtain ⟨L, hL⟩ : ∃ L, ks.length = L := ⟨_, rfl⟩
  rw [hL] at hcap ⊢
  have hb0 := ext_alloc (Below.refl w.heap.size w) (.cells #[.int .i64 k0, sk t0, .int .i64 n0, .slice b2 L cap2] 24)
  have g0 := alloc_new w (.cells #[.int .i64 k0, sk t0, .int .i64 n0, .slice b2 L cap2] 24)
  clear e2 hn hms
  replace hV : Hid _ := hV
  replace hL : Hid _ := hL
  replace hkids : Hid _ := hkids
  go_enter Tryz.func35, Tryz.ntmps35
  go_wp2
  go_loopw [5, 6] (fun kk ix wr => ∃ j k' : Nat, j ≤ L ∧ ix = .int .i64 (j : Nat) ∧ kk = .int .i64 (k' : Nat) ∧ k' = min (1 + manyN.go (ks.take j)) (m + 1) ∧ Below w.heap.size w wr ∧ wr.heap[w.heap.size]? = some (.cells #[.int .i64 k0, sk t0, .int .i64 n0, .slice b2 L cap2] 24)) (fun _ ix _ => L - (intOf ix).toNat)
  case atStart => exact ⟨0, 1, by omega, rfl, rfl, by simp [manyN.go], hb0, g0⟩
  case round =>
    obtain ⟨j, k', hj, rfl, rfl, hs, hbw, gw⟩ := hrel
    have hk' : k' ≤ m + 1 := by omega
    replace hs : Hid _ := hs
    obtain ⟨q0, q1, q2, q3, _, _, _, _⟩ := in4 gw
    by_cases hlt : j < L
    · have hlt' : (j : Int) < (L : Int) := by omega
      by_cases hle : k' ≤ m
      · have hle' : (k' : Int) ≤ (m : Int) := by omega
        obtain ⟨y, hy⟩ : ∃ y, ks[j]? = some y := ⟨_, List.getElem?_eq_getElem (show j < ks.length by have := hL.out; omega)⟩
        rcases hkids.out with h | ⟨g, off, rfl, hSg, hkd⟩
        · rw [h] at hy
          simp at hy
        obtain ⟨b', cap', v0, v1, v2, v3, hyV⟩ := ndAt_val (hkd j y hy)
        have c0 : wr.cell? ⟨g, off + j * 4, none⟩ = some (.int .i64 y.k) := cellB hbw v0
        have c1 := cellB hbw v1
        have c2 := cellB hbw v2
        have c3 := cellB hbw v3
        have hkj : k' = 1 + manyN.go (ks.take j) := by have := hs.out; omega
        have hjk : j ≤ 600 := by
          have := many_len (ks.take j)
          have := hL.out
          simp at *
          omega
        have hcall := ih y (List.mem_of_getElem? hy) (m - k') S b' cap' wr (by omega) (hyV.below hbw)
        rw [show ((m - k' : Nat) : Int) = (m : Int) - (k' : Int) by omega] at hcall
        have hnew : k' + min (manyN y) (m - k' + 1) = min (1 + manyN.go (ks.take (j + 1))) (m + 1) := by
          rw [take_next hy, many_app]
          simp only [manyN.go]
          omega
        obtain ⟨mo, hmo⟩ : ∃ mo, min (manyN y) (m - k' + 1) = mo := ⟨_, rfl⟩
        have hmo2 : mo ≤ 601 := by omega
        rw [hmo] at hcall hnew
        replace hnew : Hid _ := hnew
        clear v0 v1 v2 v3 hyV hy hkd ih hmo hkj
        go_wp2_with (go_at_call 35; refine hcall.mono ?_; rintro e w1 ⟨rfl, hb1⟩)
        go_roundw
        case rel => exact ⟨j + 1, k' + mo, by omega, by go_num, by go_num, hnew.out, ext_trans hbw hb1, block_below hb1 gw⟩
        case measure => simp [intOf]; omega
      · have hle' : ¬ (k' : Int) ≤ (m : Int) := by omega
        have hVk : V = k' := by
          rw [← hV.out]
          have h1 := hs.out
          obtain ⟨y, hy⟩ : ∃ y, ks[j]? = some y := ⟨_, List.getElem?_eq_getElem (show j < ks.length by have := hL.out; omega)⟩
          have := congrArg manyN.go (kids_split hy)
          rw [many_app] at this
          omega
        subst hVk
        go_wp2
        go_ret
        exact ⟨rfl, hbw⟩
    · have hge : ¬ (j : Int) < (L : Int) := by omega
      have hVk : V = k' := by
        rw [← hV.out]
        have h1 := hs.out
        have e : j = ks.length := by have := hL.out; omega
        rw [e, List.take_length] at h1
        omega
      subst hVk
      go_wp2
      go_ret
      exact ⟨rfl, hbw⟩
theorem many_any (n : Nd) : ManyC n := nd_ind many_step n
end Go.Proofs.YtbofdfdmikhanaaGreatDoor
