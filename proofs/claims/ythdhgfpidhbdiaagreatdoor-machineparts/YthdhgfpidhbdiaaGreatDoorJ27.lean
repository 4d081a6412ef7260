/- The machine's operations; the order at work. The machine's tables: which one a value is; Get, Len, Next. Texts, a frame and a row of frames once more, in memory of their own. A row of frames once more. A table and a row of tables once more, in memory of their own. -/
import Derived.Test.YthdhgfpidhbdiaaGreatDoorJ26
import Derived.Deep.RegionWith
namespace Go.Proofs.YthdhgfpidhbdiaaGreatDoor
open Go.RowKit
open Go

set_option linter.unusedSectionVars false
variable [DecidableEq Vl]

/-- What a method leaves that gives a value. -/
def VQ (W : World) (R : Int ⊕ Vl) (e : Ending) (W' : World) : Prop :=
  Below W.heap.size W W' ∧ match R with
  | .inl c => e = .panicked (pan (flr c))
  | .inr v => e = .returned v.v
theorem res104 {tm : Array Value} {W : World} {B : Nat} {x : Vl} (h : tm[8]?.getD undef = .pointer (some ⟨B, 0, none⟩)) (hx : W.heap[B]? = some (bx x)) : (results Tryz.f104 tm).run Tryz.prog W = .ok x.v W := by
  obtain ⟨c0, c1, c2, _, _, _⟩ := in3 hx
  simp [results, Tryz.results104, go_sem, h, c0, c1, c2]
theorem new3 (W : World) (a b c : Obj) : (((W.alloc a).alloc b).alloc c).heap[W.heap.size + 1 + 1]? = some c := by
  have := heap_new ((W.alloc a).alloc b) c
  simpa using this
set_option maxRecDepth 20000 in
set_option maxHeartbeats 1600000 in
theorem mop_ok (pt : Value) (op : Int) (x y r : Vl) (W : World) (hc : ∀ w, Below W.heap.size W w → Calls Tryz.prog 122 #[.int .i64 op, x.v, y.v] w fun e w' => e = .returned (.tuple #[r.v, .int .i64 0]) ∧ Below w.heap.size w w') :
    Calls Tryz.prog 104 #[pt, .int .i64 op, x.v, y.v] W (VQ W (.inr r)) := by
  have E0 := below3 W (bx x) (bx y) (bx nilV)
  have g0 := new3 W (bx x) (bx y) (bx nilV)
  go_enter Tryz.func104, Tryz.ntmps104
  go_wp2_with (go_at_call 122; refine (hc _ E0).mono ?_; rintro e w2 ⟨rfl, hb2⟩; have g2 := block_below hb2 g0; obtain ⟨c0, c1, c2, f0, f1, f2⟩ := in3 g2; refine Hid.out ?_)
  refine Lib.hid ?_
  have hz : W.heap.size + 1 + 1 < w2.heap.size := block_lt g2
  have E2 := ext_trans E0 hb2
  go_wp2_with (go_at_call 114; refine (need_ok _).mono ?_; rintro e w' ⟨rfl, rfl⟩)
  exact bodyPost_ret (res104 (B := W.heap.size + 1 + 1) rfl (block_alloc _ (put3_same r g2))) rfl ⟨ext_alloc (put3_below r E2 (by omega)) _, rfl⟩
set_option maxRecDepth 20000 in
set_option maxHeartbeats 1600000 in
theorem mop_no (pt : Value) (op c : Int) (x y r : Vl) (W : World) (h0 : (c != 0) = true) (hc : ∀ w, Below W.heap.size W w → Calls Tryz.prog 122 #[.int .i64 op, x.v, y.v] w fun e w' => e = .returned (.tuple #[r.v, .int .i64 c]) ∧ Below w.heap.size w w') :
    Calls Tryz.prog 104 #[pt, .int .i64 op, x.v, y.v] W (VQ W (.inl c)) := by
  have E0 := below3 W (bx x) (bx y) (bx nilV)
  go_enter Tryz.func104, Tryz.ntmps104
  go_wp2_with (go_at_call 122; refine (hc _ E0).mono ?_; rintro e w2 ⟨rfl, hb2⟩; refine Hid.out ?_)
  refine Lib.hid ?_
  have E2 := ext_trans E0 hb2
  go_wp2_with (go_at_call 114; refine (need_no c _ h0).mono ?_; rintro e w' ⟨rfl, rfl⟩)
  exact ⟨rfl, ext_alloc E2 _, rfl⟩
/-- What an operation leaves. -/
def opR (r : Vl × Int) : Int ⊕ Vl := if r.2 = 0 then .inr r.1 else .inl r.2
theorem mop_any {F : Int → Vl → Vl → Vl × Int} (hF : OpF F) (pt : Value) (op : Int) (x y : Vl) (W : World) (ht : PTab W) : Calls Tryz.prog 104 #[pt, .int .i64 op, x.v, y.v] W (VQ W (opR (F op x y))) := by
  unfold opR
  split
  · rename_i h
    refine mop_ok pt op x y _ W (fun w hb => ?_)
    have := hF.c op x y w (ht.on hb)
    rw [h] at this
    exact this
  · rename_i h
    exact mop_no pt op _ x y (F op x y).1 W (by simpa using h) (fun w hb => hF.c op x y w (ht.on hb))
section
variable {w0 : World} {p : Mp} {fv : Value} {mn : Int} {s : St} {W : World}
theorem res54 {tm : Array Value} {W : World} {B : Nat} {x : Od} (h : tm[2]?.getD undef = .pointer (some ⟨B, 0, none⟩)) (hx : W.heap[B]? = some (.cells #[.int .i64 x.op, .int .i64 x.a, .int .i64 x.b, .int .i64 x.c] 82)) : (results Tryz.f54 tm).run Tryz.prog W = .ok x.v W := by
  have d0 : W.cell? ⟨B, 0, none⟩ = some (.int .i64 x.op) := cell_block hx rfl
  have d1 : W.cell? ⟨B, 1, none⟩ = some (.int .i64 x.a) := cell_block hx rfl
  have d2 : W.cell? ⟨B, 2, none⟩ = some (.int .i64 x.b) := cell_block hx rfl
  have d3 : W.cell? ⟨B, 3, none⟩ = some (.int .i64 x.c) := cell_block hx rfl
  simp [results, Tryz.results54, go_sem, h, d0, d1, d2, d3]
set_option maxRecDepth 20000 in
set_option maxHeartbeats 2000000 in
/-- The order that is done next. -/
theorem order_cells (B F fc k : Nat) (b off cf : Nat) (nf : Nat) (fn pc : Nat) (ib ioff il ic : Nat) (o : Od) (W : World)
    (c0 : W.cell? ⟨B, 0, none⟩ = some (.slice (some ⟨b, off, none⟩) nf cf)) (c2 : W.cell? ⟨B, 2, none⟩ = some (.slice (some ⟨F, 0, none⟩) (k + 1) fc)) (hk : k ≤ 1000)
    (d0 : W.cell? ⟨F, k * 4, none⟩ = some (.int .i64 fn)) (d1 : W.cell? ⟨F, k * 4 + 1, none⟩ = some (.int .i64 pc)) (hfn : fn < nf) (hpc : pc < il)
    (e3 : W.cell? ⟨b, off + fn * 4 + 3, none⟩ = some (.slice (some ⟨ib, ioff, none⟩) il ic)) (hi : Four W ib (ioff + pc * 4) o) :
    Calls Tryz.prog 54 #[.pointer (some ⟨B, 0, none⟩)] W fun e W' => e = .returned o.v ∧ Below W.heap.size W W' := by
  have hB := World.block_lt_of_cell? _ _ c0
  have hF := World.block_lt_of_cell? _ _ d0
  have hb := World.block_lt_of_cell? _ _ e3
  obtain ⟨i0, i1, i2, i3⟩ := hi
  have hib := World.block_lt_of_cell? _ _ i0
  simp only at hB hF hb hib
  have c2' : (W.alloc (.cells #[.int .i64 0, .int .i64 0, .int .i64 0, .int .i64 0] 82)).cell? ⟨B, 2, none⟩ = some (.slice (some ⟨F, 0, none⟩) (k + 1) fc) := (World.cell?_alloc_past _ _ _ hB).trans c2
  have ht := top_cell B F fc k _ c2' hk
  go_enter Tryz.func54, Tryz.ntmps54
  go_wp2_with (go_at_call 76; refine ht.mono ?_; rintro e w1 ⟨rfl, n, rfl⟩)
  go_region
  all_goals
    go_wp2
    refine bodyPost_ret (res54 (B := W.heap.size) (x := o) rfl ?_) rfl ⟨rfl, ?_⟩
    · exact set_block _ (set_block _ (set_block _ (set_block (W := (W.alloc _).drewN (n + 1)) _ (heap_new W _))))
    · exact ((((drewN_below (n := n + 1) (ext_alloc (Below.refl W.heap.size W) _)).setCell (p := ⟨W.heap.size, 0, none⟩) (Nat.le_refl _) _).setCell (p := ⟨W.heap.size, 1, none⟩) (Nat.le_refl _) _).setCell (p := ⟨W.heap.size, 2, none⟩) (Nat.le_refl _) _).setCell (p := ⟨W.heap.size, 3, none⟩) (Nat.le_refl _) _
/-- The program lies there: the functions' row. -/
structure PrgAt (w0 : World) (fv : Value) (fs : List Fd) : Prop where
  ex : ∃ a c, fv = .slice a fs.length c ∧ RowF w0.heap.size w0 a fs
theorem ord_any {fs : List Fd} {main : Int} (hp : progB fs main = true) (hP : PrgAt w0 fv fs) (h : Mc w0 p fv mn s W) (hg : Good fs s) {ini : List Frm} {x : Frm} (e : s.fr = ini ++ [x]) {o : Od} (ho : orderAt fs x = some o) :
    Calls Tryz.prog 54 #[.pointer (some ⟨p.B, 0, none⟩)] W fun e W' => e = .returned o.v ∧ Below W.heap.size W W' := by
  obtain ⟨a, c, rfl, hR⟩ := hP.ex
  obtain ⟨f, o', hf, hq, ho', _, hk, k1, k2, k3, _⟩ := (hg.fg x (by rw [e]; simp)).order hp
  rw [ho] at ho'
  cases ho'
  obtain ⟨l, q, e1, rfl, e2, e3⟩ := h.top e
  obtain ⟨d0, d1, _, _, _⟩ := h.topCells e1
  obtain ⟨c0, _, c2, _⟩ := h.cells
  have hl : s.fr.length = l.length + 1 := by rw [e, List.length_append, e3]; rfl
  rw [hl] at c2
  have h40 := hg.n2
  have hlt := (List.getElem?_eq_some_iff.1 hf).1
  have hR' := hR.below h.bl
  obtain ⟨b, off, rfl, hb, hel⟩ := hR'.2 (fun e => by rw [e] at hlt; simp at hlt)
  obtain ⟨h1, h2, h3⟩ := hel _ _ hf
  obtain ⟨ib, ioff, e4, hib, hes⟩ := h3.2 (fun e => by have := hk.i1; rw [e] at this; simp at this)
  have e5 := h1.i
  rw [e4] at e5
  obtain ⟨fn, hfn⟩ : ∃ fn : Nat, q.x.f = fn := ⟨q.x.f.toNat, by omega⟩
  obtain ⟨pc, hpc⟩ : ∃ pc : Nat, q.x.pc = pc := ⟨q.x.pc.toNat, by omega⟩
  rw [hfn] at d0 hlt hf e5
  rw [hpc] at d1 hq k3
  simp only [Int.toNat_natCast] at hlt e5 hq
  exact order_cells p.B p.F p.fc l.length b off c fs.length fn pc ib ioff f.is.length f.ic o W c0 c2 (by omega) d0 d1 hlt (by omega) e5 (hes pc o hq)
end
end Go.Proofs.YthdhgfpidhbdiaaGreatDoor
namespace Go.Proofs.YthdhgfpidhbdiaaGreatDoor
open Go.RowKit
open Go

set_option linter.unusedSectionVars false
variable [DecidableEq Vl]

set_option maxRecDepth 20000 in
set_option maxHeartbeats 1000000 in
theorem table_no (pt : Value) (k n : Int) (t : ByteArray) (W : World) (hk : (k != 4) = true) : Calls Tryz.prog 116 #[pt, .agg #[.int .i64 k, .int .i64 n, .string t]] W fun e W' => e = .panicked (pan (flr 3)) ∧ W' = W.alloc (box k n t) := by
  go_enter Tryz.func116, Tryz.ntmps116
  go_wp2_with (go_at_call 97; refine (refuse_no 3 _ rfl).mono ?_; rintro e w' ⟨rfl, rfl⟩)
  exact ⟨rfl, rfl, rfl⟩
set_option maxRecDepth 20000 in
set_option maxHeartbeats 1000000 in
theorem table_yes (B T tc nt i : Nat) (t : ByteArray) (W : World) (c3 : W.cell? ⟨B, 3, none⟩ = some (.slice (some ⟨T, 0, none⟩) nt tc)) (hi : i < nt) (_hn : nt ≤ 1000) :
    Calls Tryz.prog 116 #[.pointer (some ⟨B, 0, none⟩), .agg #[.int .i64 4, .int .i64 (i : Nat), .string t]] W fun e W' => e = .returned (.pointer (some ⟨T, i * 2, none⟩)) ∧ Below W.heap.size W W' := by
  have hB := World.block_lt_of_cell? _ _ c3
  simp only at hB
  go_enter Tryz.func116, Tryz.ntmps116
  go_wp2_with (go_at_call 97; refine (refuse_ok 3 _).mono ?_; rintro e w' ⟨rfl, rfl⟩)
  go_region
  all_goals
    go_wp2
    go_ret
    exact ⟨rfl, drewN_below (n := 1) (ext_alloc (Below.refl W.heap.size W) _)⟩
theorem row_mono {n₀ m : Nat} (hm : n₀ ≤ m) {A : World} {v : Value} {xs : List Vl} (r : Row n₀ A v xs) : Row m A v xs := by
  obtain ⟨a, cap, e, hl, hx⟩ := r
  refine ⟨a, cap, e, hl, fun hne => ?_⟩
  obtain ⟨b, off, ea, hb, hc⟩ := hx hne
  exact ⟨b, off, ea, by omega, hc⟩
theorem res99 {tm : Array Value} {W : World} {B : Nat} {x : Vl} (h : tm[6]?.getD undef = .pointer (some ⟨B, 0, none⟩)) (hx : W.heap[B]? = some (bx x)) : (results Tryz.f99 tm).run Tryz.prog W = .ok x.v W := by
  obtain ⟨c0, c1, c2, _, _, _⟩ := in3 hx
  simp [results, Tryz.results99, go_sem, h, c0, c1, c2]
/-- Which table a value is, or that it is none. -/
structure TabA (T : Nat) (v : Vl) (W : World) (e : Ending) (W' : World) : Prop where
  b : Below W.heap.size W W'
  w : (¬ v.k = 4 ∧ e = .panicked (pan (flr 3))) ∨ (v.k = 4 ∧ e = .returned (.pointer (some ⟨T, v.n.toNat * 2, none⟩)))
theorem table_any (B T tc nt : Nat) (v : Vl) (W : World) (c3 : W.cell? ⟨B, 3, none⟩ = some (.slice (some ⟨T, 0, none⟩) nt tc)) (hv : v.k = 4 → 0 ≤ v.n ∧ v.n.toNat < nt) (hn : nt ≤ 1000) :
    Calls Tryz.prog 116 #[.pointer (some ⟨B, 0, none⟩), v.v] W (TabA T v W) := by
  obtain ⟨k, n, t, _, _, _⟩ := v
  by_cases hk : k = 4
  · subst hk
    obtain ⟨h0, h1⟩ := hv rfl
    simp only at h0 h1
    obtain ⟨i, rfl⟩ : ∃ i : Nat, n = i := ⟨n.toNat, by omega⟩
    simp only [Int.toNat_natCast] at h1
    exact (table_yes B T tc nt i t W c3 h1 hn).mono fun e W' ⟨a, b⟩ => ⟨b, .inr ⟨rfl, by rw [a]; simp⟩⟩
  · exact (table_no _ k n t W (by simpa using hk)).mono fun e W' ⟨a, b⟩ => ⟨by rw [b]; exact ext_alloc (Below.refl _ _) _, .inl ⟨hk, a⟩⟩
set_option maxRecDepth 20000 in
set_option maxHeartbeats 4000000 in
theorem mget_any (B T tc nt : Nat) (v y : Vl) (R : Int ⊕ Vl) (t : Tb) (ks vs : Value) (W : World) (c3 : W.cell? ⟨B, 3, none⟩ = some (.slice (some ⟨T, 0, none⟩) nt tc)) (hv : v.k = 4 → 0 ≤ v.n ∧ v.n.toNat < nt) (hn : nt ≤ 1000)
    (hd : v.k = 4 → W.cell? ⟨T, v.n.toNat * 2, none⟩ = some ks ∧ W.cell? ⟨T, v.n.toNat * 2 + 1, none⟩ = some vs ∧ Tab W.heap.size W ks vs t.ks t.vs)
    (hR : R = if v.k = 4 then .inr (getT t.ks t.vs y) else .inl 3) :
    Calls Tryz.prog 99 #[.pointer (some ⟨B, 0, none⟩), v.v, y.v] W (VQ W R) := by
  have hB := World.block_lt_of_cell? _ _ c3
  simp only at hB
  obtain ⟨r, hr⟩ : ∃ r, getT t.ks t.vs y = r := ⟨_, rfl⟩
  rw [hr] at hR
  obtain ⟨w1, hw1⟩ : ∃ w1, ((W.alloc (.cells #[.int .i64 v.k, .int .i64 v.n, .string v.s] 30)).alloc (.cells #[.int .i64 y.k, .int .i64 y.n, .string y.s] 30)).alloc (.cells #[.int .i64 0, .int .i64 0, .string ⟨#[]⟩] 30) = w1 := ⟨_, rfl⟩
  have E0 : Below W.heap.size W w1 := by rw [← hw1]; exact below3 W _ _ _
  have g0 : w1.heap[W.heap.size + 1 + 1]? = some (bx nilV) := by rw [← hw1]; exact new3 W _ _ _
  have g1 : w1.heap[W.heap.size + 1]? = some (bx y) := by rw [← hw1]; refine block_alloc _ ?_; have := heap_new (W.alloc (.cells #[.int .i64 v.k, .int .i64 v.n, .string v.s] 30)) (bx y); simpa using this
  have g2 : w1.heap[W.heap.size]? = some (bx v) := by rw [← hw1]; exact block_alloc _ (block_alloc _ (heap_new _ _))
  replace c3 := (E0.cell (p := ⟨B, 3, none⟩) hB).trans c3
  obtain ⟨b0, b1, b2, _, _, _⟩ := in3 g1
  obtain ⟨p0, p1, p2, _, _, _⟩ := in3 g2
  have hz := block_lt g0
  have hcl := fun w2 (hb : Below w1.heap.size w1 w2) => table_any B T tc nt v w2 ((hb.cell (p := ⟨B, 3, none⟩) (by show B < _; omega)).trans c3) hv hn
  have hTw : v.k = 4 → ∀ w2, Below w1.heap.size w1 w2 → w2.cell? ⟨T, v.n.toNat * 2, none⟩ = some ks ∧ w2.cell? ⟨T, v.n.toNat * 2 + 1, none⟩ = some vs ∧ Calls Tryz.prog 115 #[.agg #[ks, vs], y.v] w2 fun e w' => e = .returned r.v ∧ Below w2.heap.size w2 w' := fun h4 w2 hb => by
    obtain ⟨d0, d1, hT⟩ := hd h4
    have hE := ext_trans E0 hb
    refine ⟨(hE.cell (p := ⟨T, v.n.toNat * 2, none⟩) (World.block_lt_of_cell? _ _ d0)).trans d0, (hE.cell (p := ⟨T, v.n.toNat * 2 + 1, none⟩) (World.block_lt_of_cell? _ _ d1)).trans d1, ?_⟩
    have := get_any ks vs t.ks t.vs y w2 (by
      have h2 := hT.below hE
      exact ⟨row_mono hE.size h2.keys, row_mono hE.size h2.vals⟩)
    rw [hr] at this
    exact this
  clear hd hr
  clear g2
  replace hTw : Hid _ := hTw
  replace hcl : Hid _ := hcl
  replace hR : Hid _ := hR
  go_enter Tryz.func99, Tryz.ntmps99
  go_wp2
  go_region_with (first | (go_at_call 116; refine (hcl.out _ (ext_drew (Below.refl _ _))).mono ?_; rintro e w2 ⟨hb2, (⟨h4, rfl⟩ | ⟨h4, rfl⟩)⟩; (exact ⟨rfl, ext_trans (ext_drew E0) hb2, by rw [hR.out, if_neg h4]⟩); obtain ⟨d0, d1, hg⟩ := hTw.out h4 w2 (ext_trans (ext_drew (Below.refl w1.heap.size w1)) hb2); obtain ⟨q0, q1, q2, _, _, _⟩ := in3 (block_below (ext_trans (ext_drew (Below.refl w1.heap.size w1)) hb2) g1)) | (go_at_call 115; refine hg.mono ?_; rintro e w3 ⟨rfl, hb3⟩; have g3 := block_below hb3 (block_below (ext_trans (ext_drew (Below.refl w1.heap.size w1)) hb2) g0); obtain ⟨a0, a1, a2, f0, f1, f2⟩ := in3 g3))
  all_goals
    go_wp2
    exact bodyPost_ret (res99 (B := W.heap.size + 1 + 1) rfl (put3_same r g3)) rfl ⟨put3_below r (ext_trans (ext_trans (ext_drew E0) hb2) hb3) (by omega), by rw [hR.out, if_pos h4]⟩
end Go.Proofs.YthdhgfpidhbdiaaGreatDoor
namespace Go.Proofs.YthdhgfpidhbdiaaGreatDoor
open Go.RowKit
open Go

set_option linter.unusedSectionVars false
variable [DecidableEq Vl]

/-- Rows that are handed in: of texts, of frames, of tables. -/
def RowS (n₀ : Nat) (W : World) (sv : Value) (ts : List ByteArray) : Prop :=
  ∃ (a : Option Addr) (cap : Nat), sv = .slice a ts.length cap ∧ ts.length ≤ maxLen ∧ (ts ≠ [] → ∃ b off, a = some ⟨b, off, none⟩ ∧ b < n₀ ∧ ∀ j t, ts[j]? = some t → W.cell? ⟨b, off + j, none⟩ = some (.string t))
def FrAt (n₀ : Nat) (W : World) (b o : Nat) (x : Frm) : Prop :=
  W.cell? ⟨b, o, none⟩ = some (.int .i64 x.f) ∧ W.cell? ⟨b, o + 1, none⟩ = some (.int .i64 x.pc) ∧ W.cell? ⟨b, o + 2, none⟩ = some (.int .i64 x.d) ∧ ∃ rv, W.cell? ⟨b, o + 3, none⟩ = some rv ∧ Row n₀ W rv x.rs
def RowFr (n₀ : Nat) (W : World) (sv : Value) (xs : List Frm) : Prop :=
  ∃ (a : Option Addr) (cap : Nat), sv = .slice a xs.length cap ∧ xs.length ≤ maxLen ∧ (xs ≠ [] → ∃ b off, a = some ⟨b, off, none⟩ ∧ b < n₀ ∧ ∀ j x, xs[j]? = some x → FrAt n₀ W b (off + j * 4) x)
theorem FrAt.below {n₀ : Nat} {A B : World} (h : Below n₀ A B) {b o : Nat} {x : Frm} (hb : b < n₀) (t : FrAt n₀ A b o x) : FrAt n₀ B b o x := by
  obtain ⟨t0, t1, t2, rv, t3, hr⟩ := t
  exact ⟨(h.cell (p := ⟨b, o, none⟩) hb).trans t0, (h.cell (p := ⟨b, o + 1, none⟩) hb).trans t1, (h.cell (p := ⟨b, o + 2, none⟩) hb).trans t2, rv, (h.cell (p := ⟨b, o + 3, none⟩) hb).trans t3, hr.below h⟩
set_option maxRecDepth 20000 in
set_option maxHeartbeats 4000000 in
theorem eachS_any (sv : Value) (ts : List ByteArray) (W : World) (hr : RowS W.heap.size W sv ts) (hl : ts.length ≤ 60000) (hs : ∀ t ∈ ts, t.size ≤ 300) :
    Calls Tryz.prog 73 #[sv, .func (.func 74) #[] #[]] W fun e W' => ∃ g cap, e = .returned (.slice (some ⟨g, 0, none⟩) ts.length cap) ∧ OwnR W' g 9 1 ts.length cap (ts.map Value.string) ∧ W.heap.size ≤ g ∧ Below W.heap.size W W' := by
  obtain ⟨a, cp, rfl, _, hx⟩ := hr
  obtain ⟨n, hn⟩ : ∃ n, ts.length = n := ⟨_, rfl⟩
  rw [hn] at hl ⊢
  obtain ⟨mc, hmk, hms⟩ := made_row 27 9 _ 1 16 n Tryz.underlying27 info9 (by omega) (by omega) (by omega)
  obtain ⟨i0, hi0, hz0, hz1, hz2⟩ := info_parts info9
  replace hn : Hid _ := hn
  replace hx : Hid _ := hx
  replace hs : Hid _ := hs
  go_enter Tryz.func73, Tryz.ntmps73
  go_wp2
  go_loopw [5, 13] (fun t i wr => ∃ k g cap : Nat, k ≤ n ∧ i = .int .i64 (k : Nat) ∧ t = .slice (some ⟨g, 0, none⟩) k cap ∧ Hid (OwnR wr g 9 1 k cap ((ts.take k).map Value.string)) ∧ W.heap.size ≤ g ∧ Below W.heap.size W wr) (fun _ i _ => n - (intOf i).toNat)
  case atStart => exact ⟨0, W.heap.size, n, Nat.zero_le _, rfl, rfl, OwnR.made hms (by omega), Nat.le_refl _, ext_alloc (Below.refl _ _) _⟩
  case round =>
    obtain ⟨k, g, cap, hk, rfl, rfl, hO, hg, hbw⟩ := hrel
    by_cases hlt : k < n
    · obtain ⟨x, hxk⟩ : ∃ x, ts[k]? = some x := ⟨ts[k]'(by rw [hn.out]; exact hlt), List.getElem?_eq_getElem _⟩
      obtain ⟨b, off, rfl, hb, hc⟩ := hx.out (fun e => by rw [e] at hxk; simp at hxk)
      have c0 := (hbw.cell (p := ⟨b, off + k, none⟩) hb).trans (hc k x hxk)
      have hxs := hs.out x (List.mem_of_getElem? hxk)
      have hbwr : b < wr.heap.size := Nat.lt_of_lt_of_le hb hbw.size
      have hfv := fun w => clone_any x w hxs
      have hgl : g < wr.heap.size := hO.out.lt
      have h63 : k + 1 ≤ maxLen := by unfold maxLen; omega
      have hby : (k + 1) * 16 ≤ 140737488355328 := by omega
      have hnw : ∀ (u : World) (j : Nat) (y : Value), [Value.string x][j]? = some y → (u.alloc (.cells #[.string x] 9)).cell? ((⟨u.heap.size, 0, none⟩ : Addr).add j) = some y := fun u j y hy => by
        match j, hy with
        | 0, hy => cases hy; exact cell_block (i := 0) (heap_new u _) rfl
        | j + 1, hy => simp at hy
      go_wp2_with (first | (go_at_call 74; refine (hfv _).mono ?_; rintro e w2 ⟨rfl, E2⟩; have E3 := ext_alloc E2 (.cells #[.string x] 9); have hown := (hO.out.same (E3.block g hgl)).owns (base := W.heap.size) hg; have hnews := hnw w2; have hsz : W.heap.size ≤ (w2.alloc (.cells #[.string x] 9)).heap.size := Nat.le_trans hbw.size E3.size) | (at_builtin; refine wpList_append_lies _ (by rfl) _ _ _ (by rfl) W.heap.size 9 i0 _ 1 16 Tryz.underlying27 hi0 hz0 hz1 hz2 rfl (by omega) (.slice (some ⟨g, 0, none⟩) k cap) k _ (by rfl) hown ⟨w2.heap.size, 0, none⟩ 1 1 [Value.string x] (by rfl) (by rfl) hnews (by simp [Value.oneCell']) (by omega) h63 hby hsz _ rfl ?_; intro g3 cap3 w3 hown3 hgrow hat hlt3))
      go_roundw
      case measure => simp [intOf]; omega
      case rel =>
        have hO3 := OwnR.of hown3
        refine ⟨k + 1, g3, cap3, by omega, by go_num, rfl, ?_, hO3.2, ?_⟩
        · rw [take_snoc hxk, List.map_append]
          exact hO3.1
        · have hk3 := Keeps.grown hgrow
          exact (((Keeps.of_below (S := fun k => some k = some g) hbw).trans ((Keeps.of_below (S := fun k => some k = some g) E3).mono (fun _ _ h => h))).trans hk3).below (Nat.le_refl _) (fun k hk e => by have := Option.some.inj e; omega)
    · obtain rfl : k = n := by omega
      go_wp2
      go_ret
      refine ⟨g, cap, rfl, ?_, hg, hbw⟩
      have := hO.out
      rw [List.take_of_length_le (by rw [hn.out]; exact Nat.le_refl _)] at this
      exact this
theorem res68 {tm : Array Value} {W : World} {B : Nat} {a b c d : Value} (h : tm[2]?.getD undef = .pointer (some ⟨B, 0, none⟩)) (hx : W.heap[B]? = some (.cells #[a, b, c, d] 50)) : (results Tryz.f68 tm).run Tryz.prog W = .ok (.agg #[a, b, c, d]) W := by
  have d0 : W.cell? ⟨B, 0, none⟩ = some a := cell_block hx rfl
  have d1 : W.cell? ⟨B, 1, none⟩ = some b := cell_block hx rfl
  have d2 : W.cell? ⟨B, 2, none⟩ = some c := cell_block hx rfl
  have d3 : W.cell? ⟨B, 3, none⟩ = some d := cell_block hx rfl
  simp [results, Tryz.results68, go_sem, h, d0, d1, d2, d3]
set_option maxRecDepth 20000 in
set_option maxHeartbeats 2000000 in
theorem fresh1_any (x : Frm) (rv : Value) (W : World) (hr : Row W.heap.size W rv x.rs) (hl : x.rs.length ≤ 1000) (hs : ∀ v ∈ x.rs, v.s.size ≤ 300) :
    Calls Tryz.prog 68 #[.agg #[.int .i64 x.f, .int .i64 x.pc, .int .i64 x.d, rv]] W fun e W' => ∃ g cap, e = .returned (.agg #[.int .i64 x.f, .int .i64 x.pc, .int .i64 x.d, .slice (some ⟨g, 0, none⟩) x.rs.length cap]) ∧ OwnR W' g 30 3 x.rs.length cap (flat x.rs) ∧ W.heap.size ≤ g ∧ Below W.heap.size W W' := by
  obtain ⟨a, cp, hrv, _⟩ := id hr
  have E0 := ext_alloc (ext_alloc (Below.refl W.heap.size W) (.cells #[.int .i64 x.f, .int .i64 x.pc, .int .i64 x.d, rv] 50)) (.cells #[.int .i64 0, .int .i64 0, .int .i64 0, .slice none 0 0] 50)
  have g0 : ((W.alloc (.cells #[.int .i64 x.f, .int .i64 x.pc, .int .i64 x.d, rv] 50)).alloc (.cells #[.int .i64 0, .int .i64 0, .int .i64 0, .slice none 0 0] 50)).heap[W.heap.size]? = some (.cells #[.int .i64 x.f, .int .i64 x.pc, .int .i64 x.d, rv] 50) := block_alloc _ (heap_new _ _)
  have g1 := new2' W (.cells #[.int .i64 x.f, .int .i64 x.pc, .int .i64 x.d, rv] 50) (.cells #[.int .i64 0, .int .i64 0, .int .i64 0, .slice none 0 0] 50)
  have hev := eachV_any rv x.rs _ (row_mono E0.size (hr.below E0)) hl hs
  subst hrv
  obtain ⟨n, hn⟩ : ∃ n, x.rs.length = n := ⟨_, rfl⟩
  rw [hn] at hev g0 g1 E0 ⊢
  clear hr hl hs hn
  go_enter Tryz.func68, Tryz.ntmps68
  go_wp2_with (go_at_call 69; refine hev.mono ?_; rintro e w2 ⟨g, cap, rfl, hO, hg, hb2⟩; refine Hid.out ?_)
  refine Lib.hid ?_
  have G0 := block_below hb2 g0
  have G1 := block_below hb2 g1
  have hz : W.heap.size + 1 < w2.heap.size := block_lt G1
  have a0 := cell_block (i := 0) G0 rfl
  have a1 := cell_block (i := 1) G0 rfl
  have a2 := cell_block (i := 2) G0 rfl
  have a3 := cell_block (i := 3) G0 rfl
  have b0 := cell_block (i := 0) G1 rfl
  have b1 := cell_block (i := 1) G1 rfl
  have b2 := cell_block (i := 2) G1 rfl
  have b3 := cell_block (i := 3) G1 rfl
  have f3 := frozen_block (i := 3) G0
  have z0 := frozen_block (i := 0) G1
  have z1 := frozen_block (i := 1) G1
  have z2 := frozen_block (i := 2) G1
  have z3 := frozen_block (i := 3) G1
  have hg2 : W.heap.size + 1 < g := by have := hg; simp at this; omega
  have e2 : (w2.setCell ⟨W.heap.size, 3, none⟩ (.slice (some ⟨g, 0, none⟩) n cap)).heap[W.heap.size + 1]? = _ := (set1_other _ _ (by omega)).trans G1
  have E2 : Below W.heap.size W (w2.setCell ⟨W.heap.size, 3, none⟩ (.slice (some ⟨g, 0, none⟩) n cap)) := (ext_trans E0 hb2).setCell (p := ⟨W.heap.size, 3, none⟩) (Nat.le_refl _) _
  have hO2 : OwnR (w2.setCell ⟨W.heap.size, 3, none⟩ (.slice (some ⟨g, 0, none⟩) n cap)) g 30 3 n cap (flat x.rs) := hO.same (set1_other _ _ (by omega))
  go_wp2
  refine bodyPost_ret (res68 (B := W.heap.size + 1) rfl (set_block _ (set_block _ (set_block _ (set_block _ e2))))) rfl ⟨g, cap, rfl, ?_, by omega, ?_⟩
  · exact hO2.same ((set1_other _ _ (by omega)).trans ((set1_other _ _ (by omega)).trans ((set1_other _ _ (by omega)).trans (set1_other _ _ (by omega)))))
  · exact (((E2.setCell (p := ⟨W.heap.size + 1, 0, none⟩) (Nat.le_succ _) _).setCell (p := ⟨W.heap.size + 1, 1, none⟩) (Nat.le_succ _) _).setCell (p := ⟨W.heap.size + 1, 2, none⟩) (Nat.le_succ _) _).setCell (p := ⟨W.heap.size + 1, 3, none⟩) (Nat.le_succ _) _
end Go.Proofs.YthdhgfpidhbdiaaGreatDoor
namespace Go.Proofs.YthdhgfpidhbdiaaGreatDoor
open Go.RowKit
open Go

set_option linter.unusedSectionVars false
variable [DecidableEq Vl]

/-- Frames that were made anew: their registers lie apart. -/
structure FI (lo : Nat) (W : World) (g : Nat) (fw : List Fw) : Prop where
  rg : ∀ q ∈ fw, OwnR W q.g 30 3 q.x.rs.length q.c (flat q.x.rs)
  lo : ∀ q ∈ fw, lo ≤ q.g ∧ q.g ≠ g
  nd : (fw.map Fw.g).Nodup
theorem FI.nil (lo : Nat) (W : World) (g : Nat) : FI lo W g [] := ⟨by simp, by simp, by simp⟩
/-- One more. -/
theorem FI.snoc {lo : Nat} {W U w3 : World} {g g3 : Nat} {fw : List Fw} (h : FI lo W g fw) (hg : g < W.heap.size) (hb : Below W.heap.size W U) (hgr : U.grownBy w3 (some g)) (hat : g = g3 ∨ g3 = U.heap.size) {q : Fw} (hq : OwnR U q.g 30 3 q.x.rs.length q.c (flat q.x.rs)) (hql : W.heap.size ≤ q.g) (hlo : lo ≤ W.heap.size) : FI lo w3 g3 (fw ++ [q]) := by
  have hne : ∀ z ∈ fw, z.g < W.heap.size := fun z hz => (h.rg z hz).lt
  have hsz := hb.size
  have hql2 := hq.lt
  have hk : ∀ k, k < U.heap.size → k ≠ g → w3.heap[k]? = U.heap[k]? := fun k hk hn => hgr.block k hk (fun e => hn (Option.some.inj e))
  refine ⟨fun z hz => ?_, fun z hz => ?_, ?_⟩
  · rcases List.mem_append.1 hz with hz | hz
    · have h1 := hne z hz
      exact ((h.rg z hz).same (hb.block _ h1)).same (hk _ (by omega) (h.lo z hz).2)
    · simp only [List.mem_singleton] at hz
      subst hz
      exact hq.same (hk _ hql2 (by omega))
  · rcases List.mem_append.1 hz with hz | hz
    · have h1 := hne z hz
      refine ⟨(h.lo z hz).1, fun e => ?_⟩
      rcases hat with e2 | e2
      · exact (h.lo z hz).2 (by omega)
      · omega
    · simp only [List.mem_singleton] at hz
      subst hz
      refine ⟨by omega, fun e => ?_⟩
      rcases hat with e2 | e2 <;> omega
  · rw [List.map_append, List.nodup_append]
    refine ⟨h.nd, by simp, fun a ha b hb' => ?_⟩
    obtain ⟨z, hz, rfl⟩ := List.mem_map.1 ha
    simp at hb'
    subst hb'
    have := hne z hz
    omega
theorem FI.on {lo : Nat} {W W' : World} {g : Nat} {fw : List Fw} (h : FI lo W g fw) (hb : Below W.heap.size W W') : FI lo W' g fw := ⟨fun q hq => (h.rg q hq).same (hb.block _ (h.rg q hq).lt), h.lo, h.nd⟩
set_option maxRecDepth 20000 in
set_option maxHeartbeats 4000000 in
theorem eachF_any (sv : Value) (xs : List Frm) (W : World) (hr : RowFr W.heap.size W sv xs) (hl : xs.length ≤ 40) (hrl : ∀ x ∈ xs, x.rs.length ≤ 1000) (hs : ∀ x ∈ xs, ∀ v ∈ x.rs, v.s.size ≤ 300) :
    Calls Tryz.prog 67 #[sv, .func (.func 68) #[] #[]] W fun e W' => ∃ g cap fw, e = .returned (.slice (some ⟨g, 0, none⟩) xs.length cap) ∧ OwnR W' g 50 4 xs.length cap (frCells fw) ∧ fw.map Fw.x = xs ∧ FI W.heap.size W' g fw ∧ W.heap.size ≤ g ∧ Below W.heap.size W W' := by
  obtain ⟨a, cp, rfl, _, hx⟩ := hr
  obtain ⟨n, hn⟩ : ∃ n, xs.length = n := ⟨_, rfl⟩
  rw [hn] at hl ⊢
  obtain ⟨mc, hmk, hms⟩ := made_row 25 50 _ 4 48 n Tryz.underlying25 info50 (by omega) (by omega) (by omega)
  obtain ⟨i0, hi0, hz0, hz1, hz2⟩ := info_parts info50
  replace hn : Hid _ := hn
  replace hx : Hid _ := hx
  replace hs : Hid _ := hs
  replace hrl : Hid _ := hrl
  go_enter Tryz.func67, Tryz.ntmps67
  go_wp2
  go_loopw [5, 13] (fun t i wr => ∃ (k g cap : Nat) (fw : List Fw), k ≤ n ∧ i = .int .i64 (k : Nat) ∧ t = .slice (some ⟨g, 0, none⟩) k cap ∧ Hid (OwnR wr g 50 4 k cap (frCells fw) ∧ fw.map Fw.x = xs.take k ∧ FI W.heap.size wr g fw) ∧ W.heap.size ≤ g ∧ Below W.heap.size W wr) (fun _ i _ => n - (intOf i).toNat)
  case atStart => exact ⟨0, W.heap.size, n, [], Nat.zero_le _, rfl, rfl, ⟨OwnR.made hms (by omega), by simp, FI.nil _ _ _⟩, Nat.le_refl _, ext_alloc (Below.refl _ _) _⟩
  case round =>
    obtain ⟨k, g, cap, fw, hk, rfl, rfl, hO, hg, hbw⟩ := hrel
    by_cases hlt : k < n
    · obtain ⟨x, hxk⟩ : ∃ x, xs[k]? = some x := ⟨xs[k]'(by rw [hn.out]; exact hlt), List.getElem?_eq_getElem _⟩
      obtain ⟨b, off, rfl, hb, hc⟩ := hx.out (fun e => by rw [e] at hxk; simp at hxk)
      obtain ⟨c0, c1, c2, rv, c3, hrow⟩ := (hc k x hxk).below hbw hb
      have hmem := List.mem_of_getElem? hxk
      have hbwr : b < wr.heap.size := Nat.lt_of_lt_of_le hb hbw.size
      have hb0 := ext_alloc (Below.refl wr.heap.size wr) (.cells #[.int .i64 x.f, .int .i64 x.pc, .int .i64 x.d, rv] 50)
      have hfv := fresh1_any x rv (wr.alloc (.cells #[.int .i64 x.f, .int .i64 x.pc, .int .i64 x.d, rv] 50)) (row_mono (by rw [World.size_alloc]; have := hbw.size; omega) (hrow.below (hb0.mono hbw.size))) (hrl.out x hmem) (hs.out x hmem)
      have hgl : g < wr.heap.size := hO.out.1.lt
      have h63 : k + 1 ≤ maxLen := by unfold maxLen; omega
      have hby : (k + 1) * 48 ≤ 140737488355328 := by omega
      obtain ⟨ra, rc, hrv, _⟩ := id hrow
      subst hrv
      obtain ⟨m, hm⟩ : ∃ m, x.rs.length = m := ⟨_, rfl⟩
      rw [hm] at hfv c3 hb0
      replace hm : Hid _ := hm
      clear hrow
      have hnw : ∀ (u : World) (gq cq : Nat) (j : Nat) (y : Value), [Value.int .i64 x.f, Value.int .i64 x.pc, Value.int .i64 x.d, Value.slice (some ⟨gq, 0, none⟩) m cq][j]? = some y → (u.alloc (.cells #[.int .i64 x.f, .int .i64 x.pc, .int .i64 x.d, .slice (some ⟨gq, 0, none⟩) m cq] 50)).cell? ((⟨u.heap.size, 0, none⟩ : Addr).add j) = some y := fun u gq cq j y hy => by
        match j, hy with
        | 0, hy => cases hy; exact cell_block (i := 0) (heap_new u _) rfl
        | 1, hy => cases hy; exact cell_block (i := 1) (heap_new u _) rfl
        | 2, hy => cases hy; exact cell_block (i := 2) (heap_new u _) rfl
        | 3, hy => cases hy; exact cell_block (i := 3) (heap_new u _) rfl
        | j + 4, hy => simp at hy
      go_wp2_with (first | (go_at_call 68; refine hfv.mono ?_; rintro e w2 ⟨gq, cq, rfl, hOq, hgq, hb2⟩; have E2 := ext_trans hb0 hb2; have E3 := ext_alloc E2 (.cells #[.int .i64 x.f, .int .i64 x.pc, .int .i64 x.d, .slice (some ⟨gq, 0, none⟩) m cq] 50); have hown := (hO.out.1.same (E3.block g hgl)).owns (base := W.heap.size) hg; have hnews := hnw w2 gq cq; have hsz : W.heap.size ≤ (w2.alloc (.cells #[.int .i64 x.f, .int .i64 x.pc, .int .i64 x.d, .slice (some ⟨gq, 0, none⟩) m cq] 50)).heap.size := Nat.le_trans hbw.size E3.size) | (at_builtin; refine wpList_append_lies _ (by rfl) _ _ _ (by rfl) W.heap.size 50 i0 _ 4 48 Tryz.underlying25 hi0 hz0 hz1 hz2 rfl (by omega) (.slice (some ⟨g, 0, none⟩) k cap) k _ (by rfl) hown ⟨w2.heap.size, 0, none⟩ 1 1 [Value.int .i64 x.f, Value.int .i64 x.pc, Value.int .i64 x.d, Value.slice (some ⟨gq, 0, none⟩) m cq] (by rfl) (by rfl) hnews (by simp [Value.oneCell']) (by omega) h63 hby hsz _ rfl ?_; intro g3 cap3 w3 hown3 hgrow hat hlt3))
      go_roundw
      case measure => simp [intOf]; omega
      case rel =>
        have hO3 := OwnR.of hown3
        obtain ⟨o1, o2, o3⟩ := hO.out
        have hat' : g = g3 ∨ g3 = (w2.alloc (.cells #[.int .i64 x.f, .int .i64 x.pc, .int .i64 x.d, .slice (some ⟨gq, 0, none⟩) m cq] 50)).heap.size := by
          rcases hat with e | e
          · exact .inl (Option.some.inj e)
          · exact .inr e
        have hOq' : OwnR (w2.alloc (.cells #[.int .i64 x.f, .int .i64 x.pc, .int .i64 x.d, .slice (some ⟨gq, 0, none⟩) m cq] 50)) gq 30 3 x.rs.length cq (flat x.rs) := by rw [hm.out]; exact hOq.same (Below.heap_alloc _ _ _ hOq.lt)
        refine ⟨k + 1, g3, cap3, fw ++ [⟨x, gq, cq⟩], by omega, by go_num, rfl, ⟨?_, ?_, ?_⟩, hO3.2, ?_⟩
        · rw [frCells_append]
          have := hO3.1
          rw [← hm.out] at this
          simpa [frCells] using this
        · rw [take_snoc hxk, List.map_append, o2]; rfl
        · exact o3.snoc hgl E3 hgrow hat' (q := ⟨x, gq, cq⟩) hOq' (by have := hgq; rw [World.size_alloc] at this; show wr.heap.size ≤ gq; omega) hbw.size
        · have hk3 := Keeps.grown hgrow
          exact (((Keeps.of_below (S := fun k => some k = some g) hbw).trans ((Keeps.of_below (S := fun k => some k = some g) E3).mono (fun _ _ h => h))).trans hk3).below (Nat.le_refl _) (fun k hk e => by have := Option.some.inj e; omega)
    · obtain rfl : k = n := by omega
      go_wp2
      go_ret
      obtain ⟨o1, o2, o3⟩ := hO.out
      rw [List.take_of_length_le (by rw [hn.out]; exact Nat.le_refl _)] at o2
      exact ⟨g, cap, fw, rfl, o1, o2, o3, hg, hbw⟩
end Go.Proofs.YthdhgfpidhbdiaaGreatDoor
namespace Go.Proofs.YthdhgfpidhbdiaaGreatDoor
open Go.RowKit
open Go

set_option linter.unusedSectionVars false
variable [DecidableEq Vl]

def TbAt (n₀ : Nat) (W : World) (b o : Nat) (x : Tb) : Prop := ∃ kv vv, W.cell? ⟨b, o, none⟩ = some kv ∧ W.cell? ⟨b, o + 1, none⟩ = some vv ∧ Row n₀ W kv x.ks ∧ Row n₀ W vv x.vs
def RowTb (n₀ : Nat) (W : World) (sv : Value) (xs : List Tb) : Prop :=
  ∃ (a : Option Addr) (cap : Nat), sv = .slice a xs.length cap ∧ xs.length ≤ maxLen ∧ (xs ≠ [] → ∃ b off, a = some ⟨b, off, none⟩ ∧ b < n₀ ∧ ∀ j x, xs[j]? = some x → TbAt n₀ W b (off + j * 2) x)
theorem TbAt.below {n₀ : Nat} {A B : World} (h : Below n₀ A B) {b o : Nat} {x : Tb} (hb : b < n₀) (t : TbAt n₀ A b o x) : TbAt n₀ B b o x := by
  obtain ⟨kv, vv, t0, t1, hr, hr'⟩ := t
  exact ⟨kv, vv, (h.cell (p := ⟨b, o, none⟩) hb).trans t0, (h.cell (p := ⟨b, o + 1, none⟩) hb).trans t1, hr.below h, hr'.below h⟩
theorem flat_at' {rs : List Vl} {i : Nat} {v : Vl} (hi : rs[i]? = some v) : (flat rs)[i * 3]? = some (.int .i64 v.k) ∧ (flat rs)[i * 3 + 1]? = some (.int .i64 v.n) ∧ (flat rs)[i * 3 + 2]? = some (.string v.s) := by
  induction rs generalizing i with
  | nil => simp at hi
  | cons x xs ih =>
    have e : flat (x :: xs) = .int .i64 x.k :: .int .i64 x.n :: .string x.s :: flat xs := by simp [flat]
    rw [e]
    cases i with
    | zero => simp at hi; subst hi; simp
    | succ i =>
      rw [show (i + 1) * 3 = i * 3 + 1 + 1 + 1 by omega]
      simp only [List.getElem?_cons_succ] at hi ⊢
      exact ih hi
/-- A row of values from lo on, in another block than g. -/
def RwG (lo : Nat) (W : World) (g : Nat) (sv : Value) (xs : List Vl) : Prop :=
  ∃ (a : Option Addr) (cap : Nat), sv = .slice a xs.length cap ∧ xs.length ≤ maxLen ∧ (xs ≠ [] → ∃ b off, a = some ⟨b, off, none⟩ ∧ lo ≤ b ∧ b ≠ g ∧ b < W.heap.size ∧ ∀ j x, xs[j]? = some x → Three W b (off + j * 3) x)
theorem RwG.of {W : World} {g cap lo h : Nat} {xs : List Vl} (hO : OwnR W g 30 3 xs.length cap (flat xs)) (hl : lo ≤ g) (hne : g ≠ h) : RwG lo W h (.slice (some ⟨g, 0, none⟩) xs.length cap) xs := by
  have hcap : xs.length ≤ maxLen := by
    obtain ⟨_, _, _, h1, h2, _⟩ := hO
    omega
  refine ⟨some ⟨g, 0, none⟩, cap, rfl, hcap, fun _ => ⟨g, 0, rfl, hl, hne, hO.lt, fun j x hx => ?_⟩⟩
  obtain ⟨e0, e1, e2⟩ := flat_at' hx
  rw [Nat.zero_add]
  exact ⟨(hO.cell e0).1, (hO.cell e1).1, (hO.cell e2).1⟩
theorem RwG.keep {lo lo' : Nat} {W W' : World} {g g' : Nat} {sv : Value} {xs : List Vl} (h : RwG lo W g sv xs) (hlo : lo' ≤ lo) (hk : ∀ b, lo ≤ b → b < W.heap.size → b ≠ g → W'.heap[b]? = W.heap[b]? ∧ b ≠ g') (hs : W.heap.size ≤ W'.heap.size) : RwG lo' W' g' sv xs := by
  obtain ⟨a, cap, e, hl, hx⟩ := h
  refine ⟨a, cap, e, hl, fun hne => ?_⟩
  obtain ⟨b, off, ea, h1, h2, h3, hc⟩ := hx hne
  obtain ⟨k1, k2⟩ := hk b h1 h3 h2
  refine ⟨b, off, ea, by omega, k2, by omega, fun j x hj => ?_⟩
  obtain ⟨t1, t2, t3⟩ := hc j x hj
  exact ⟨(World.cell?_of_block (a := ⟨b, _, none⟩) k1).trans t1, (World.cell?_of_block (a := ⟨b, _, none⟩) k1).trans t2, (World.cell?_of_block (a := ⟨b, _, none⟩) k1).trans t3⟩
theorem k2' {w : World} {B c o : Nat} {p q : Value} (h : c ≠ B) : ((w.setCell ⟨B, 0, none⟩ p).setCell ⟨B, 1, none⟩ q).cell? ⟨c, o, none⟩ = w.cell? ⟨c, o, none⟩ := World.cell?_of_block (a := ⟨c, o, none⟩) ((set1_other _ _ h).trans (set1_other _ _ h))
theorem res72 {tm : Array Value} {W : World} {B : Nat} {a b : Value} (h : tm[2]?.getD undef = .pointer (some ⟨B, 0, none⟩)) (hx : W.heap[B]? = some (.cells #[a, b] 57)) : (results Tryz.f72 tm).run Tryz.prog W = .ok (.agg #[a, b]) W := by
  have d0 : W.cell? ⟨B, 0, none⟩ = some a := cell_block hx rfl
  have d1 : W.cell? ⟨B, 1, none⟩ = some b := cell_block hx rfl
  simp [results, Tryz.results72, go_sem, h, d0, d1]
set_option maxRecDepth 20000 in
set_option maxHeartbeats 4000000 in
theorem fresh2_any (x : Tb) (kv vv : Value) (W : World) (hr : Row W.heap.size W kv x.ks) (hr' : Row W.heap.size W vv x.vs) (hl : x.ks.length ≤ 1000) (hl' : x.vs.length ≤ 1000) (hs : ∀ v ∈ x.ks, v.s.size ≤ 300) (hs' : ∀ v ∈ x.vs, v.s.size ≤ 300) :
    Calls Tryz.prog 72 #[.agg #[kv, vv]] W fun e W' => ∃ g cap g' cap', e = .returned (.agg #[.slice (some ⟨g, 0, none⟩) x.ks.length cap, .slice (some ⟨g', 0, none⟩) x.vs.length cap']) ∧ OwnR W' g 30 3 x.ks.length cap (flat x.ks) ∧ OwnR W' g' 30 3 x.vs.length cap' (flat x.vs) ∧ W.heap.size ≤ g ∧ W.heap.size ≤ g' ∧ Below W.heap.size W W' := by
  obtain ⟨a, cp, hkv, _⟩ := id hr
  obtain ⟨a', cp', hvv, _⟩ := id hr'
  have hk : ∀ w2, Below W.heap.size W w2 → Calls Tryz.prog 69 #[kv, .func (.func 70) #[] #[]] w2 _ := fun w2 hb => eachV_any kv x.ks w2 (row_mono hb.size (hr.below hb)) hl hs
  have hv : ∀ w2, Below W.heap.size W w2 → Calls Tryz.prog 69 #[vv, .func (.func 70) #[] #[]] w2 _ := fun w2 hb => eachV_any vv x.vs w2 (row_mono hb.size (hr'.below hb)) hl' hs'
  subst hkv
  subst hvv
  obtain ⟨n, hn⟩ : ∃ n, x.ks.length = n := ⟨_, rfl⟩
  obtain ⟨n', hn'⟩ : ∃ n, x.vs.length = n := ⟨_, rfl⟩
  rw [hn] at hk ⊢
  rw [hn'] at hv ⊢
  obtain ⟨w1, hw1⟩ : ∃ w1, (W.alloc (.cells #[.slice a n cp, .slice a' n' cp'] 57)).alloc (.cells #[.slice none 0 0, .slice none 0 0] 57) = w1 := ⟨_, rfl⟩
  have E0 : Below W.heap.size W w1 := by rw [← hw1]; exact ext_alloc (ext_alloc (Below.refl W.heap.size W) _) _
  have g0 : w1.heap[W.heap.size]? = some (.cells #[.slice a n cp, .slice a' n' cp'] 57) := by rw [← hw1]; exact block_alloc _ (heap_new _ _)
  have g1 : w1.heap[W.heap.size + 1]? = some (.cells #[.slice none 0 0, .slice none 0 0] 57) := by rw [← hw1]; exact new2' W _ _
  have p0 := cell_block (i := 0) g0 rfl
  have p1 := cell_block (i := 1) g0 rfl
  have hS : ∀ u, Below w1.heap.size w1 u → u.cell? ⟨W.heap.size, 0, none⟩ = some (.slice a n cp) ∧ u.cell? ⟨W.heap.size, 1, none⟩ = some (.slice a' n' cp') := fun u hb => ⟨cellB hb p0, cellB hb p1⟩
  have hz : W.heap.size + 1 < w1.heap.size := block_lt g1
  replace hS : Hid _ := hS
  replace hk : Hid _ := hk
  replace hv : Hid _ := hv
  have y1 : W.heap.size ≠ W.heap.size + 1 := by omega
  clear hr hr' hl hl' hs hs' hn hn'
  go_enter Tryz.func72, Tryz.ntmps72
  go_wp2
  go_region_held3 (fun u => u.cell? ⟨W.heap.size, 0, none⟩ = some (.slice a n cp) ∧ u.cell? ⟨W.heap.size, 1, none⟩ = some (.slice a' n' cp')) (first | go_keep | with_reducible exact ⟨(k2' y1).trans s0, (k2' y1).trans s1⟩) (first | (go_at_call_of 69 a; refine (hk.out _ (ext_drew E0)).mono ?_; rintro e w2 ⟨g, cap, rfl, hO, hg, hb2⟩; have N2 := ext_trans (ext_drew (Below.refl w1.heap.size w1)) hb2; obtain ⟨s0, s1⟩ := hS.out w2 N2) | (go_at_call_of 69 a'; refine (hv.out _ (ext_trans E0 N2)).mono ?_; rintro e w3 ⟨g', cap', rfl, hO', hg', hb3⟩; have N3 := ext_trans N2 hb3; obtain ⟨s0, s1⟩ := hS.out w3 N3; have G1 := block_below N3 g1; have m0 := cell_block (i := 0) G1 rfl; have m1 := cell_block (i := 1) G1 rfl; have z0 := frozen_block (i := 0) G1; have z1 := frozen_block (i := 1) G1))
  have hg2 : W.heap.size + 1 < g := by have h9 : w1.heap.size ≤ g := hg; omega
  have hg3 : w2.heap.size ≤ g' := hg'
  have hz2 := N2.size
  have E3 : Below W.heap.size W w3 := ext_trans E0 N3
  have hOa : OwnR w3 g 30 3 n cap (flat x.ks) := hO.same (hb3.block g hO.lt)
  go_wp2
  refine bodyPost_ret (res72 (B := W.heap.size + 1) rfl (put2_same G1)) rfl ⟨g, cap, g', cap', rfl, ?_, ?_, by omega, by omega, put2_below _ _ E3 (by omega)⟩
  · exact hOa.same (put2_other _ _ _ (by omega))
  · exact hO'.same (put2_other _ _ _ (by omega))
/-- Tables that were made anew. -/
def TI (lo : Nat) (W : World) (g : Nat) (tw : List Tw) : Prop := ∀ q ∈ tw, RwG lo W g q.a q.t.ks ∧ RwG lo W g q.b q.t.vs
set_option maxRecDepth 20000 in
set_option maxHeartbeats 4000000 in
theorem eachT_any (sv : Value) (xs : List Tb) (W : World) (hr : RowTb W.heap.size W sv xs) (hl : xs.length ≤ 200) (hrl : ∀ x ∈ xs, x.ks.length ≤ 1000 ∧ x.vs.length ≤ 1000) (hs : ∀ x ∈ xs, (∀ v ∈ x.ks, v.s.size ≤ 300) ∧ ∀ v ∈ x.vs, v.s.size ≤ 300) :
    Calls Tryz.prog 71 #[sv, .func (.func 72) #[] #[]] W fun e W' => ∃ g cap tw, e = .returned (.slice (some ⟨g, 0, none⟩) xs.length cap) ∧ OwnR W' g 57 2 xs.length cap (tbCells tw) ∧ tw.map Tw.t = xs ∧ TI W.heap.size W' g tw ∧ W.heap.size ≤ g ∧ Below W.heap.size W W' := by
  obtain ⟨a, cp, rfl, _, hx⟩ := hr
  obtain ⟨n, hn⟩ : ∃ n, xs.length = n := ⟨_, rfl⟩
  rw [hn] at hl ⊢
  obtain ⟨mc, hmk, hms⟩ := made_row 26 57 _ 2 48 n Tryz.underlying26 info57 (by omega) (by omega) (by omega)
  obtain ⟨i0, hi0, hz0, hz1, hz2⟩ := info_parts info57
  replace hn : Hid _ := hn
  replace hx : Hid _ := hx
  replace hs : Hid _ := hs
  replace hrl : Hid _ := hrl
  go_enter Tryz.func71, Tryz.ntmps71
  go_wp2
  go_loopw [5, 13] (fun t i wr => ∃ (k g cap : Nat) (tw : List Tw), k ≤ n ∧ i = .int .i64 (k : Nat) ∧ t = .slice (some ⟨g, 0, none⟩) k cap ∧ Hid (OwnR wr g 57 2 k cap (tbCells tw) ∧ tw.map Tw.t = xs.take k ∧ TI W.heap.size wr g tw) ∧ W.heap.size ≤ g ∧ Below W.heap.size W wr) (fun _ i _ => n - (intOf i).toNat)
  case atStart => exact ⟨0, W.heap.size, n, [], Nat.zero_le _, rfl, rfl, ⟨OwnR.made hms (by omega), by simp, fun q hq => by simp at hq⟩, Nat.le_refl _, ext_alloc (Below.refl _ _) _⟩
  case round =>
    obtain ⟨k, g, cap, tw, hk, rfl, rfl, hO, hg, hbw⟩ := hrel
    by_cases hlt : k < n
    · obtain ⟨x, hxk⟩ : ∃ x, xs[k]? = some x := ⟨xs[k]'(by rw [hn.out]; exact hlt), List.getElem?_eq_getElem _⟩
      obtain ⟨b, off, rfl, hb, hc⟩ := hx.out (fun e => by rw [e] at hxk; simp at hxk)
      obtain ⟨kv, vv, c0, c1, hrow, hrow'⟩ := (hc k x hxk).below hbw hb
      have hmem := List.mem_of_getElem? hxk
      have hbwr : b < wr.heap.size := Nat.lt_of_lt_of_le hb hbw.size
      have hb0 := ext_alloc (Below.refl wr.heap.size wr) (.cells #[kv, vv] 57)
      have hfv := fresh2_any x kv vv (wr.alloc (.cells #[kv, vv] 57)) (row_mono (by rw [World.size_alloc]; have := hbw.size; omega) (hrow.below (hb0.mono hbw.size))) (row_mono (by rw [World.size_alloc]; have := hbw.size; omega) (hrow'.below (hb0.mono hbw.size))) (hrl.out x hmem).1 (hrl.out x hmem).2 (hs.out x hmem).1 (hs.out x hmem).2
      have hgl : g < wr.heap.size := hO.out.1.lt
      have h63 : k + 1 ≤ maxLen := by unfold maxLen; omega
      have hby : (k + 1) * 48 ≤ 140737488355328 := by omega
      obtain ⟨ra, rc, hrv, _⟩ := id hrow
      obtain ⟨ra', rc', hrv', _⟩ := id hrow'
      subst hrv
      subst hrv'
      obtain ⟨m, hm⟩ : ∃ m, x.ks.length = m := ⟨_, rfl⟩
      obtain ⟨m', hm'⟩ : ∃ m, x.vs.length = m := ⟨_, rfl⟩
      rw [hm] at hfv c0 hb0
      rw [hm'] at hfv c1 hb0
      replace hm : Hid _ := hm
      replace hm' : Hid _ := hm'
      clear hrow hrow'
      have hnw : ∀ (u : World) (p q : Value) (j : Nat) (y : Value), [p, q][j]? = some y → (u.alloc (.cells #[p, q] 57)).cell? ((⟨u.heap.size, 0, none⟩ : Addr).add j) = some y := fun u p q j y hy => by
        match j, hy with
        | 0, hy => cases hy; exact cell_block (i := 0) (heap_new u _) rfl
        | 1, hy => cases hy; exact cell_block (i := 1) (heap_new u _) rfl
        | j + 2, hy => simp at hy
      go_wp2_with (first | (go_at_call 72; refine hfv.mono ?_; rintro e w2 ⟨gq, cq, gr, cr, rfl, hOq, hOr, hgq, hgr, hb2⟩; have E2 := ext_trans hb0 hb2; have E3 := ext_alloc E2 (.cells #[.slice (some ⟨gq, 0, none⟩) m cq, .slice (some ⟨gr, 0, none⟩) m' cr] 57); have hown := (hO.out.1.same (E3.block g hgl)).owns (base := W.heap.size) hg; have hnews := hnw w2 (.slice (some ⟨gq, 0, none⟩) m cq) (.slice (some ⟨gr, 0, none⟩) m' cr); have hsz : W.heap.size ≤ (w2.alloc (.cells #[.slice (some ⟨gq, 0, none⟩) m cq, .slice (some ⟨gr, 0, none⟩) m' cr] 57)).heap.size := Nat.le_trans hbw.size E3.size) | (at_builtin; refine wpList_append_lies _ (by rfl) _ _ _ (by rfl) W.heap.size 57 i0 _ 2 48 Tryz.underlying26 hi0 hz0 hz1 hz2 rfl (by omega) (.slice (some ⟨g, 0, none⟩) k cap) k _ (by rfl) hown ⟨w2.heap.size, 0, none⟩ 1 1 [.slice (some ⟨gq, 0, none⟩) m cq, .slice (some ⟨gr, 0, none⟩) m' cr] (by rfl) (by rfl) hnews (by simp [Value.oneCell']) (by omega) h63 hby hsz _ rfl ?_; intro g3 cap3 w3 hown3 hgrow hat hlt3))
      go_roundw
      case measure => simp [intOf]; omega
      case rel =>
        have hO3 := OwnR.of hown3
        obtain ⟨o1, o2, o3⟩ := hO.out
        have hU : (w2.alloc (.cells #[.slice (some ⟨gq, 0, none⟩) m cq, .slice (some ⟨gr, 0, none⟩) m' cr] 57)).heap.size = w2.heap.size + 1 := World.size_alloc _ _
        have hat' : g = g3 ∨ g3 = w2.heap.size + 1 := by
          rcases hat with e | e
          · exact .inl (Option.some.inj e)
          · exact .inr (by omega)
        have hwr : (wr.alloc (.cells #[.slice ra m rc, .slice ra' m' rc'] 57)).heap.size = wr.heap.size + 1 := World.size_alloc _ _
        have hql := hOq.lt
        have hrl2 := hOr.lt
        have hE2 := E2.size
        have hbs := hbw.size
        have hgs := hgrow.size
        rw [hU] at hgs
        have same : ∀ b, b < w2.heap.size → b ≠ g → w3.heap[b]? = w2.heap[b]? := fun b hb hn => (hgrow.block b (by omega) (fun e => hn (Option.some.inj e))).trans (Below.heap_alloc _ _ _ hb)
        refine ⟨k + 1, g3, cap3, tw ++ [⟨x, .slice (some ⟨gq, 0, none⟩) m cq, .slice (some ⟨gr, 0, none⟩) m' cr⟩], by omega, by go_num, rfl, ⟨?_, ?_, ?_⟩, hO3.2, ?_⟩
        · rw [tbCells_append]
          simpa [tbCells] using hO3.1
        · rw [take_snoc hxk, List.map_append, o2]; rfl
        · intro z hz
          rcases List.mem_append.1 hz with hz | hz
          · have key : ∀ b, W.heap.size ≤ b → b < wr.heap.size → b ≠ g → w3.heap[b]? = wr.heap[b]? ∧ b ≠ g3 := fun b _ hb hn => ⟨(same b (by omega) hn).trans (E2.block b hb), fun e => by rcases hat' with e2 | e2 <;> omega⟩
            exact ⟨(o3 z hz).1.keep (Nat.le_refl _) key (by omega), (o3 z hz).2.keep (Nat.le_refl _) key (by omega)⟩
          · simp only [List.mem_singleton] at hz
            subst hz
            have q1 : OwnR w3 gq 30 3 x.ks.length cq (flat x.ks) := by rw [hm.out]; exact hOq.same (same gq hql (by omega))
            have q2 : OwnR w3 gr 30 3 x.vs.length cr (flat x.vs) := by rw [hm'.out]; exact hOr.same (same gr hrl2 (by omega))
            have r1 := RwG.of (lo := W.heap.size) (h := g3) q1 (by omega) (by rcases hat' with e2 | e2 <;> omega)
            have r2 := RwG.of (lo := W.heap.size) (h := g3) q2 (by omega) (by rcases hat' with e2 | e2 <;> omega)
            rw [hm.out] at r1
            rw [hm'.out] at r2
            exact ⟨r1, r2⟩
        · have hk3 := Keeps.grown hgrow
          exact (((Keeps.of_below (S := fun k => some k = some g) hbw).trans ((Keeps.of_below (S := fun k => some k = some g) E3).mono (fun _ _ h => h))).trans hk3).below (Nat.le_refl _) (fun k hk e => by have := Option.some.inj e; omega)
    · obtain rfl : k = n := by omega
      go_wp2
      go_ret
      obtain ⟨o1, o2, o3⟩ := hO.out
      rw [List.take_of_length_le (by rw [hn.out]; exact Nat.le_refl _)] at o2
      exact ⟨g, cap, tw, rfl, o1, o2, o3, hg, hbw⟩
end Go.Proofs.YthdhgfpidhbdiaaGreatDoor
