/- How a program in orders, and a state, that are handed in read. -/
import Derived.Test.YthpgbienakcbeaaGreatDoorRows
import Derived.Test.YthpgbienakcbeaaGreatDoorS39
import Derived.LaidMore
import Derived.Lib.SmallJoins
namespace Go.Proofs.YthpgbienakcbeaaGreatDoor
open Go.ChangeShapes Go.WideShapes Go.ChangeAt Go.WideMaps Go.WideElems Go.RowKit Go.Joins Go.Deep Go
set_option maxRecDepth 100000
set_option maxHeartbeats 8000000
set_option linter.all false
variable {W W' : World} {v : Value} {cs : List Value} {n base : Nat} {p : List MemPlace}
section
variable [DecidableEq Vl]
theorem own : ownKnob Tryz.prog.godebug = none := by kernel_rfl
theorem d0e {a : Addr} (h : W.cell? a = some v) : a = ⟨a.block, a.off, none⟩ := by
 obtain ⟨b, o, s⟩ := a
 cases s with
 | none => rfl
 | some s =>
  unfold World.cell? at h
  split at h <;> simp at h
theorem d0f (b off i k j : Nat) : (Addr.add (Addr.add ⟨b, off, none⟩ (i * k)) j) = ⟨b, off + i * k + j, none⟩ := by
 simp only [Addr.add]
 split <;> split <;> simp_all <;> omega
theorem l1 (h : cs.length = 1) : ∃ a, cs = [a] := by
 match cs, h with
 | [a], _ => exact ⟨a, rfl⟩
theorem l2 (h : cs.length = 2) : ∃ a b, cs = [a, b] := by
 match cs, h with
 | [a, b], _ => exact ⟨a, b, rfl⟩
theorem l3 (h : cs.length = 3) : ∃ a b c, cs = [a, b, c] := by
 match cs, h with
 | [a, b, c], _ => exact ⟨a, b, c, rfl⟩
theorem l4 (h : cs.length = 4) : ∃ a b c d, cs = [a, b, c, d] := by
 match cs, h with
 | [a, b, c, d], _ => exact ⟨a, b, c, d, rfl⟩
theorem a5l {H : Type} {enc : TypeId × Value → H} {α : Type} [Inhabited α] {t e k : Nat} (hu : Tryz.prog.underlying t = some (.slice e)) (hk : Tryz.prog.cellsOf e = k + 1) (R : Nat → Nat → α → Prop) (hR : ∀ (b off : Nat) (cs : List Value) (n : Nat) (y : DataW H × List MemPlace), cs.length = k + 1 → (∀ j, j < k + 1 → W.cell? ⟨b, off + j, none⟩ = cs[j]?) → DataW.trod enc Tryz.prog W 0 (fun _ => true) true n e cs = some y → ∃ x, R b off x) {y : DataW H × List MemPlace} (h : DataW.trod enc Tryz.prog W 0 (fun _ => true) true n t [v] = some y) :
  ∃ (a : Option Addr) (c : Nat) (xs : List α), v = .slice a xs.length c ∧ xs.length ≤ maxLen ∧ (xs ≠ [] → ∃ b off, a = some ⟨b, off, none⟩ ∧ b < W.heap.size ∧ ∀ j x, xs[j]? = some x → R b (off + j * (k + 1)) x) := by
 rcases open_slice hu h with ⟨e, _⟩ | ⟨a, len, cap, m, n', D, Pl, e, _, hl, hm, rfl, _, hel⟩
 ·simp at e
  exact ⟨none, 0, [], e, by simp, fun h => absurd rfl h⟩
 simp at e
 subst e
 rw [hk] at hel
 have h0 : 0 < len → ∃ b off, a = ⟨b, off, none⟩ ∧ b < W.heap.size := fun hp => by
  obtain ⟨cs', h1, _⟩ := hel 0 (by omega)
  obtain ⟨_, hlen, hc⟩ := World.cells?_some h1
  have := hc 0 (by omega)
  match cs', hlen with
  | c0 :: cs, _ =>
   simp [Addr.add] at this
   exact ⟨_, _, d0e this, World.block_lt_of_cell? _ _ this⟩
 obtain ⟨f, hf⟩ := choose_lt (n := len) (p := fun i (x : α) => ∃ b off, a = ⟨b, off, none⟩ ∧ R b (off + i * (k + 1)) x) (fun i hi => by
  obtain ⟨b, off, rfl, _⟩ := h0 (by omega)
  obtain ⟨cs', h1, h2⟩ := hel i (by omega)
  obtain ⟨_, hlen, hc⟩ := World.cells?_some h1
  obtain ⟨x, hx⟩ := hR b (off + i * (k + 1)) cs' n' _ hlen (fun j hj => by have := hc j hj; rw [d0f] at this; exact this) h2
  exact ⟨x, b, off, rfl, hx⟩)
 refine ⟨some a, m, (List.range len).map f, by simp, by simp; omega, fun hne => ?_⟩
 have hp : 0 < len := by
  rcases Nat.eq_zero_or_pos len with h | h
  ·subst h; simp at hne
  ·exact h
 obtain ⟨b, off, rfl, hb⟩ := h0 hp
 refine ⟨b, off, rfl, hb, fun j x hj => ?_⟩
 simp only [List.getElem?_map, Option.map_eq_some_iff] at hj
 obtain ⟨i, hi, rfl⟩ := hj
 obtain ⟨hi1, hi2⟩ := List.getElem?_eq_some_iff.1 hi
 simp at hi1 hi2
 subst hi2
 obtain ⟨b', off', e, ht⟩ := hf j hi1
 cases e
 exact ht
theorem cl2 : Tryz.prog.cellsOf 2 = 1 := by kernel_rfl
theorem cl3 : Tryz.prog.cellsOf 3 = 1 := by kernel_rfl
theorem cl9 : Tryz.prog.cellsOf 9 = 1 := by kernel_rfl
theorem cl25 : Tryz.prog.cellsOf 25 = 1 := by kernel_rfl
theorem cl26 : Tryz.prog.cellsOf 26 = 1 := by kernel_rfl
theorem cl27 : Tryz.prog.cellsOf 27 = 1 := by kernel_rfl
theorem cl28 : Tryz.prog.cellsOf 28 = 1 := by kernel_rfl
theorem cl30 : Tryz.prog.cellsOf 30 = 3 := by kernel_rfl
theorem cl32 : Tryz.prog.cellsOf 32 = 9 := by kernel_rfl
theorem cl48 : Tryz.prog.cellsOf 48 = 1 := by kernel_rfl
theorem cl52 : Tryz.prog.cellsOf 52 = 1 := by kernel_rfl
theorem b0x {H : Type} {enc : TypeId × Value → H} {c0 c1 c2 : Value} {y : DataW H × List MemPlace} (h2 : DataW.trod enc Tryz.prog W 0 (fun _ => true) true n 30 [c0, c1, c2] = some y) : ∃ x : Vl, c0 = .int .i64 x.k ∧ c1 = .int .i64 x.n ∧ c2 = .string x.s := by
 obtain ⟨y0, y1, y2, n2, _, _, g0, g1, g2⟩ := trod_struct3 Tryz.underlying30 h2
 simp only [cl3, cl2, cl9] at g0 g1 g2
 obtain ⟨k, e0, _, wk⟩ := DataW.trod_int Tryz.underlying3 g0
 obtain ⟨n, e1, _, wn⟩ := DataW.trod_int Tryz.underlying2 g1
 obtain ⟨s, e2, _, ws⟩ := DataW.trod_string Tryz.underlying9 g2
 simp at e0 e1 e2
 exact ⟨⟨k, n, s, wk, wn, ws⟩, e0, e1, e2⟩
theorem a8f {H : Type} {enc : TypeId × Value → H} {y : DataW H × List MemPlace} (h : DataW.trod enc Tryz.prog W 0 (fun _ => true) true n 48 [v] = some y) :
  ∃ (a : Option Addr) (c : Nat) (xs : List Vl), v = .slice a xs.length c ∧ xs.length ≤ maxLen ∧ (xs ≠ [] → ∃ b off, a = some ⟨b, off, none⟩ ∧ b < W.heap.size ∧ ∀ j x, xs[j]? = some x → a1m W b (off + j * 3) x) := by
 haveI : Inhabited Vl := ⟨⟨0, 0, ⟨#[]⟩, by decide, by decide, by decide⟩⟩
 refine a5l (e := 30) (k := 2) Tryz.underlying48 cl30 (fun b o x => a1m W b o x) (fun b off cs n y hl hc hd => ?_) h
 obtain ⟨c0, c1, c2, rfl⟩ := l3 hl
 obtain ⟨x, e0, e1, e2⟩ := b0x hd
 have d0 : W.cell? ⟨b, off, none⟩ = some c0 := hc 0 (by omega)
 have d1 : W.cell? ⟨b, off + 1, none⟩ = some c1 := hc 1 (by omega)
 have d2 : W.cell? ⟨b, off + 2, none⟩ = some c2 := hc 2 (by omega)
 subst e0 e1 e2
 exact ⟨x, d0, d1, d2⟩
theorem b4p {H : Type} {enc : TypeId × Value → H} {y : DataW H × List MemPlace} (h : DataW.trod enc Tryz.prog W 0 (fun _ => true) true n 52 [v] = some y) :
  ∃ (a : Option Addr) (c : Nat) (xs : List Od), v = .slice a xs.length c ∧ xs.length ≤ maxLen ∧ (xs ≠ [] → ∃ b off, a = some ⟨b, off, none⟩ ∧ b < W.heap.size ∧ ∀ j x, xs[j]? = some x → Four W b (off + j * 4) x) := by
 haveI : Inhabited Od := ⟨⟨0, 0, 0, 0, by decide, by decide, by decide, by decide⟩⟩
 refine a5l (e := 82) (k := 3) Tryz.underlying52 (by kernel_rfl) (fun b o x => Four W b o x) (fun b off cs n y hl hc hd => ?_) h
 obtain ⟨c0, c1, c2, c3, rfl⟩ := l4 hl
 have d0 : W.cell? ⟨b, off, none⟩ = some c0 := hc 0 (by omega)
 have d1 : W.cell? ⟨b, off + 1, none⟩ = some c1 := hc 1 (by omega)
 have d2 : W.cell? ⟨b, off + 2, none⟩ = some c2 := hc 2 (by omega)
 have d3 : W.cell? ⟨b, off + 3, none⟩ = some c3 := hc 3 (by omega)
 obtain ⟨y0, y1, y2, y3, n2, _, _, g0, g1, g2, g3⟩ := trod_struct4 Tryz.underlying82 hd
 simp only [cl3] at g0 g1 g2 g3
 obtain ⟨k, e0, _, wk⟩ := DataW.trod_int Tryz.underlying3 g0
 obtain ⟨n, e1, _, wn⟩ := DataW.trod_int Tryz.underlying3 g1
 obtain ⟨s, e2, _, ws⟩ := DataW.trod_int Tryz.underlying3 g2
 obtain ⟨r, e3, _, wr⟩ := DataW.trod_int Tryz.underlying3 g3
 simp at e0 e1 e2 e3
 subst e0 e1 e2 e3
 exact ⟨⟨k, n, s, r, wk, wn, ws, wr⟩, d0, d1, d2, d3⟩
theorem c5u {H : Type} {enc : TypeId × Value → H} {y : DataW H × List MemPlace} (h : DataW.trod enc Tryz.prog W 0 (fun _ => true) true n 22 [v] = some y) :
  ∃ (a : Option Addr) (c : Nat) (xs : List Fd), v = .slice a xs.length c ∧ RowF W.heap.size W a xs := by
 haveI : Inhabited Fd := ⟨⟨0, 0, by decide, by decide, none, 0, [], none, 0, []⟩⟩
 refine a5l (e := 54) (k := 3) Tryz.underlying22 (by kernel_rfl) (fun b o x => FAt W b o x ∧ FdIn W.heap.size W x) (fun b off cs n y hl hc hd => ?_) h
 obtain ⟨c0, c1, c2, c3, rfl⟩ := l4 hl
 have d0 : W.cell? ⟨b, off, none⟩ = some c0 := hc 0 (by omega)
 have d1 : W.cell? ⟨b, off + 1, none⟩ = some c1 := hc 1 (by omega)
 have d2 : W.cell? ⟨b, off + 2, none⟩ = some c2 := hc 2 (by omega)
 have d3 : W.cell? ⟨b, off + 3, none⟩ = some c3 := hc 3 (by omega)
 obtain ⟨y0, y1, y2, y3, n2, _, _, g0, g1, g2, g3⟩ := trod_struct4 Tryz.underlying54 hd
 simp only [cl3, cl48, cl52] at g0 g1 g2 g3
 obtain ⟨k, e0, _, wk⟩ := DataW.trod_int Tryz.underlying3 g0
 obtain ⟨n, e1, _, wn⟩ := DataW.trod_int Tryz.underlying3 g1
 obtain ⟨ca, cc, cs, e2, hV⟩ := a8f (v := c2) (by simpa using g2)
 obtain ⟨ia, ic, is, e3, hI⟩ := b4p (v := c3) (by simpa using g3)
 simp at e0 e1
 subst e0 e1 e2 e3
 exact ⟨⟨k, n, wk, wn, ca, cc, cs, ia, ic, is⟩, ⟨d0, d1, d2, d3⟩, hV, hI⟩
theorem c1j {H : Type} {enc : TypeId × Value → H} {d : DataW H} (hv : Value.okWide Tryz.prog W .any base 24 v) (h : DataW.Trod enc Tryz.prog W 0 (fun _ => true) true 24 v d p) : ∃ a c fs main, v = PV a fs.length c main ∧ RowF W.heap.size W a fs := by
 obtain ⟨v0, v1, y0, y1, n, rfl, _, _, h0, h1⟩ := open_agg2 Tryz.underlying24 (by kernel_rfl) (by kernel_rfl) hv h
 obtain ⟨a, c, fs, rfl, hx⟩ := c5u h0
 obtain ⟨k, e1, _, _⟩ := DataW.trod_int Tryz.underlying3 h1
 simp at e1
 subst e1
 exact ⟨a, c, fs, k, rfl, hx⟩
theorem c5v {H : Type} {enc : TypeId × Value → H} {y : DataW H × List MemPlace} (h : DataW.trod enc Tryz.prog W 0 (fun _ => true) true n 25 [v] = some y) : ∃ xs, b1v W.heap.size W v xs := by
 haveI : Inhabited Frm := ⟨⟨0, 0, 0, []⟩⟩
 obtain ⟨a, c, xs, e, hl, hx⟩ := a5l (e := 50) (k := 3) Tryz.underlying25 (by kernel_rfl) (fun b o x => FrAt W.heap.size W b o x) (fun b off cs n y hl hc hd => by
  obtain ⟨c0, c1, c2, c3, rfl⟩ := l4 hl
  have d0 : W.cell? ⟨b, off, none⟩ = some c0 := hc 0 (by omega)
  have d1 : W.cell? ⟨b, off + 1, none⟩ = some c1 := hc 1 (by omega)
  have d2 : W.cell? ⟨b, off + 2, none⟩ = some c2 := hc 2 (by omega)
  have d3 : W.cell? ⟨b, off + 3, none⟩ = some c3 := hc 3 (by omega)
  obtain ⟨y0, y1, y2, y3, n2, _, _, g0, g1, g2, g3⟩ := trod_struct4 Tryz.underlying50 hd
  simp only [cl3, cl48] at g0 g1 g2 g3
  obtain ⟨k, e0, _, wk⟩ := DataW.trod_int Tryz.underlying3 g0
  obtain ⟨n, e1, _, wn⟩ := DataW.trod_int Tryz.underlying3 g1
  obtain ⟨s, e2, _, ws⟩ := DataW.trod_int Tryz.underlying3 g2
  obtain ⟨ra, rc, rs, e3, hV⟩ := a8f (v := c3) (by simpa using g3)
  simp at e0 e1 e2
  subst e0 e1 e2
  exact ⟨⟨k, n, s, rs⟩, d0, d1, d2, c3, d3, ra, rc, e3, hV⟩) h
 exact ⟨xs, a, c, e, hl, hx⟩
theorem c5w {H : Type} {enc : TypeId × Value → H} {y : DataW H × List MemPlace} (h : DataW.trod enc Tryz.prog W 0 (fun _ => true) true n 26 [v] = some y) : ∃ xs, b0a W.heap.size W v xs := by
 haveI : Inhabited Tb := ⟨⟨[], []⟩⟩
 obtain ⟨a, c, xs, e, hl, hx⟩ := a5l (e := 57) (k := 1) Tryz.underlying26 (by kernel_rfl) (fun b o x => TbAt W.heap.size W b o x) (fun b off cs n y hl hc hd => by
  obtain ⟨c0, c1, rfl⟩ := l2 hl
  have d0 : W.cell? ⟨b, off, none⟩ = some c0 := hc 0 (by omega)
  have d1 : W.cell? ⟨b, off + 1, none⟩ = some c1 := hc 1 (by omega)
  obtain ⟨y0, y1, n2, _, _, g0, g1⟩ := trod_struct2 Tryz.underlying57 hd
  simp only [cl48] at g0 g1
  obtain ⟨ka, kc, ks, e0, hK⟩ := a8f (v := c0) (by simpa using g0)
  obtain ⟨va, vc, vs, e1, hV⟩ := a8f (v := c1) (by simpa using g1)
  exact ⟨⟨ks, vs⟩, c0, c1, d0, d1, ⟨ka, kc, e0, hK⟩, ⟨va, vc, e1, hV⟩⟩) h
 exact ⟨xs, a, c, e, hl, hx⟩
theorem c1k {H : Type} {enc : TypeId × Value → H} {y : DataW H × List MemPlace} (h : DataW.trod enc Tryz.prog W 0 (fun _ => true) true n 27 [v] = some y) : ∃ xs, RowS W.heap.size W v xs := by
 haveI : Inhabited ByteArray := ⟨⟨#[]⟩⟩
 obtain ⟨a, c, xs, e, hl, hx⟩ := a5l (e := 9) (k := 0) Tryz.underlying27 (by kernel_rfl) (fun b o x => W.cell? ⟨b, o, none⟩ = some (.string x)) (fun b off cs n y hl hc hd => by
  obtain ⟨c0, rfl⟩ := l1 hl
  have d0 : W.cell? ⟨b, off, none⟩ = some c0 := hc 0 (by omega)
  obtain ⟨s, e2, _, ws⟩ := DataW.trod_string Tryz.underlying9 hd
  simp at e2
  subst e2
  exact ⟨s, d0⟩) h
 refine ⟨xs, a, c, e, hl, fun hne => ?_⟩
 obtain ⟨b, off, e1, hb, hc⟩ := hx hne
 exact ⟨b, off, e1, hb, fun j t ht => by have := hc j t ht; simpa using this⟩
theorem l7 {α : Type} {cs : List α} (h : cs.length = 7) : ∃ a b c d e f g, cs = [a, b, c, d, e, f, g] := by
 match cs, h with
 | [a, b, c, d, e, f, g], _ => exact ⟨a, b, c, d, e, f, g, rfl⟩
theorem d2q {α : Type} {cs : Array α} (h : cs.size = 9) : ∃ a b c d e f g h i, cs = #[a, b, c, d, e, f, g, h, i] := by
 obtain ⟨l⟩ := cs
 match l, h with
 | [a, b, c, d, e, f, g, h, i], _ => exact ⟨a, b, c, d, e, f, g, h, i, rfl⟩
theorem b7l {H : Type} {enc : TypeId × Value → H} {d : DataW H} (hv : Value.okWide Tryz.prog W .any base 32 v) (h : DataW.Trod enc Tryz.prog W 0 (fun _ => true) true 32 v d p) : ∃ fv tv ov s, v = stv fv tv ov s ∧ StIn W.heap.size W fv tv ov s := by
 obtain ⟨cs, rfl, hsz⟩ := okWide_struct Tryz.underlying32 hv
 obtain ⟨c0, c1, c2, c3, c4, c5, c6, c7, c8, rfl⟩ := d2q (hsz.trans cl32)
 obtain ⟨fuel, hf⟩ := h
 obtain ⟨xs, n, _, _, _, hlen, hfl⟩ := DataW.trod_struct Tryz.underlying32 hf
 obtain ⟨y0, y1, y2, y3, y4, y5, y6, rfl⟩ := l7 hlen
 have g0 := hfl 0 _ rfl
 have g1 := hfl 1 _ rfl
 have g2 := hfl 2 _ rfl
 have g3 := hfl 3 _ rfl
 have g4 := hfl 4 _ rfl
 have g5 := hfl 5 _ rfl
 have g6 := hfl 6 _ rfl
 obtain ⟨fr, hF⟩ := c5v (v := c0) (y := y0) (n := n) (by simpa [Value.cells, cl25] using g0)
 obtain ⟨tb, hT⟩ := c5w (v := c1) (y := y1) (n := n) (by simpa [Value.cells, cl26] using g1)
 obtain ⟨out, hO⟩ := c1k (v := c2) (y := y2) (n := n) (by simpa [Value.cells, cl27] using g2)
 have k3 : DataW.trod enc Tryz.prog W 0 (fun _ => true) true n 3 [c3] = some y3 := by simpa [Value.cells, cl3] using g3
 have k4 : DataW.trod enc Tryz.prog W 0 (fun _ => true) true n 3 [c4] = some y4 := by simpa [Value.cells, cl3] using g4
 have k5 : DataW.trod enc Tryz.prog W 0 (fun _ => true) true n 28 [c5] = some y5 := by simpa [Value.cells, cl28] using g5
 obtain ⟨st, e3, _, _⟩ := DataW.trod_int Tryz.underlying3 k3
 obtain ⟨en, e4, _, _⟩ := DataW.trod_int Tryz.underlying3 k4
 obtain ⟨er, e5, _, _⟩ := DataW.trod_int Tryz.underlying28 k5
 obtain ⟨la, e6, e7, e8⟩ := b0x (c0 := c6) (c1 := c7) (c2 := c8) (y := y6) (n := n) (by simpa [Value.cells, cl30] using g6)
 simp at e3 e4 e5
 subst e3 e4 e5 e6 e7 e8
 exact ⟨c0, c1, c2, ⟨fr, tb, out, st, en, er, la⟩, rfl, hF, hT, hO⟩
theorem d2r {H : Type} {enc : TypeId × Value → H} {d : DataW H} (h : DataW.Trod enc Tryz.prog W 0 (fun _ => true) true 24 v d p) (hb : Below W.heap.size W W') (hlt : ∀ x ∈ p, x.block < W.heap.size) :
  DataW.Trod enc Tryz.prog W' 0 (fun b => decide (b < W.heap.size)) true 24 v d p := Below.trod b3s (by kernel_rfl) (of_decide_eq_true (by kernel_rfl)) h hb hlt
theorem d2s {H : Type} {enc : TypeId × Value → H} {d : DataW H} (h : DataW.Trod enc Tryz.prog W 0 (fun _ => true) true 32 v d p) (hb : Below W.heap.size W W') (hlt : ∀ x ∈ p, x.block < W.heap.size) :
  DataW.Trod enc Tryz.prog W' 0 (fun b => decide (b < W.heap.size)) true 32 v d p := Below.trod b3s (by kernel_rfl) (of_decide_eq_true (by kernel_rfl)) h hb hlt
end
end Go.Proofs.YthpgbienakcbeaaGreatDoor
