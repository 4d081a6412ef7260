/- How a program in orders that is handed in reads. -/
import Derived.Test.YtklgjfpgclelbaaRows
import Derived.Test.YtklgjfpgclelbaaCH
import Derived.ProofKit
import Derived.LaidMore
import Derived.OpenShut
import Derived.Lib.SmallJoins
import Derived.Deep.Slices
import Derived.Carry
namespace Go.Proofs.Ytklgjfpgclelbaa
open Go.ChangeShapes Go.WideShapes Go.ChangeAt Go.WideMaps Go.WideElems Go.RowKit Go.Joins Go.Deep
open Go

theorem own : ownKnob Try.prog.godebug = none := by kernel_rfl
theorem laidOut : laidOutB Try.prog = true := by kernel_rfl
theorem cells24 : Try.prog.cellsOf 24 = 2 := by kernel_rfl
theorem cells2 : Try.prog.cellsOf 2 = 1 := by kernel_rfl
theorem cells3 : Try.prog.cellsOf 3 = 1 := by kernel_rfl
theorem cells9 : Try.prog.cellsOf 9 = 1 := by kernel_rfl
theorem cells27 : Try.prog.cellsOf 27 = 1 := by kernel_rfl
theorem cells28 : Try.prog.cellsOf 28 = 1 := by kernel_rfl
theorem cells30 : Try.prog.cellsOf 30 = 4 := by kernel_rfl
theorem cells36 : Try.prog.cellsOf 36 = 3 := by kernel_rfl
theorem cells39 : Try.prog.cellsOf 39 = 4 := by kernel_rfl

theorem addr_of {W : World} {a : Addr} {v : Value} (h : W.cell? a = some v) : a = ⟨a.block, a.off, none⟩ := by
  obtain ⟨b, o, s⟩ := a
  cases s with
  | none => rfl
  | some s =>
    unfold World.cell? at h
    split at h <;> simp at h
theorem addr_in (b off i k j : Nat) : (Addr.add (Addr.add ⟨b, off, none⟩ (i * k)) j) = ⟨b, off + i * k + j, none⟩ := by
  simp only [Addr.add]
  split <;> split <;> simp_all <;> omega

/-- A row of constants. -/
theorem open_consts {H : Type} {enc : TypeId × Value → H} {W : World} {v : Value} {y : DataW H × List MemPlace} {n : Nat} (h : DataW.trod enc Try.prog W 0 (fun _ => true) true n 27 [v] = some y) : ∃ a c xs, v = .slice a xs.length c ∧ RowV W.heap.size W a xs := by
  rcases open_slice Try.underlying27 h with ⟨e, _⟩ | ⟨a, len, cap, m, n', D, Pl, e, _, hl, hm, rfl, _, hel⟩
  · simp at e
    exact ⟨none, 0, [], e, by simp, fun h => absurd rfl h⟩
  simp at e
  subst e
  haveI : Inhabited Vl := ⟨⟨0, 0, ⟨#[]⟩, by decide, by decide, by decide⟩⟩
  obtain ⟨f, hf⟩ := choose_lt (n := len) (p := fun i (x : Vl) => ∃ b off, a = ⟨b, off, none⟩ ∧ b < W.heap.size ∧ Three W b (off + i * 3) x) (fun i hi => by
    have h0 : ∃ b off, a = ⟨b, off, none⟩ := by
      obtain ⟨cs', h1, _⟩ := hel 0 (by omega)
      obtain ⟨_, hlen, hc⟩ := World.cells?_some h1
      have := hc 0 (by rw [cells36]; omega)
      rw [cells36] at hlen
      match cs', hlen with
      | [c0, c1, c2], _ =>
        simp [Addr.add] at this
        exact ⟨_, _, addr_of this⟩
    obtain ⟨b, off, rfl⟩ := h0
    obtain ⟨cs', h1, h2⟩ := hel i (by omega)
    obtain ⟨_, hlen, hc⟩ := World.cells?_some h1
    rw [cells36] at hlen hc
    match cs', hlen with
    | [c0, c1, c2], _ =>
      have d0 := hc 0 (by omega)
      have d1 := hc 1 (by omega)
      have d2 := hc 2 (by omega)
      obtain ⟨y0, y1, y2, n2, _, _, g0, g1, g2⟩ := trod_struct3 Try.underlying36 h2
      simp only [cells3, cells2, cells9] at g0 g1 g2
      obtain ⟨k, e0, _, wk⟩ := DataW.trod_int Try.underlying3 g0
      obtain ⟨n, e1, _, wn⟩ := DataW.trod_int Try.underlying2 g1
      obtain ⟨s, e2, _, ws⟩ := DataW.trod_string Try.underlying9 g2
      simp at e0 e1 e2
      subst e0 e1 e2
      rw [addr_in] at d0 d1 d2
      simp at d0 d1 d2
      exact ⟨⟨k, n, s, wk, wn, ws⟩, b, off, rfl, World.block_lt_of_cell? _ _ d0, ⟨d0, d1, d2⟩⟩)
  refine ⟨some a, m, (List.range len).map f, by simp, by simp; omega, fun hne => ?_⟩
  have hp : 0 < len := by
    rcases Nat.eq_zero_or_pos len with h | h
    · subst h; simp at hne
    · exact h
  obtain ⟨b, off, rfl, hb, _⟩ := hf 0 hp
  refine ⟨b, off, rfl, hb, fun j x hj => ?_⟩
  simp only [List.getElem?_map, Option.map_eq_some_iff] at hj
  obtain ⟨i, hi, rfl⟩ := hj
  obtain ⟨hi1, hi2⟩ := List.getElem?_eq_some_iff.1 hi
  simp at hi1 hi2
  subst hi2
  obtain ⟨b', off', e, _, ht⟩ := hf j hi1
  cases e
  exact ht

/-- A row of orders. -/
theorem open_orders {H : Type} {enc : TypeId × Value → H} {W : World} {v : Value} {y : DataW H × List MemPlace} {n : Nat} (h : DataW.trod enc Try.prog W 0 (fun _ => true) true n 28 [v] = some y) : ∃ a c xs, v = .slice a xs.length c ∧ RowI W.heap.size W a xs := by
  rcases open_slice Try.underlying28 h with ⟨e, _⟩ | ⟨a, len, cap, m, n', D, Pl, e, _, hl, hm, rfl, _, hel⟩
  · simp at e
    exact ⟨none, 0, [], e, by simp, fun h => absurd rfl h⟩
  simp at e
  subst e
  haveI : Inhabited Od := ⟨⟨0, 0, 0, 0, by decide, by decide, by decide, by decide⟩⟩
  obtain ⟨f, hf⟩ := choose_lt (n := len) (p := fun i (x : Od) => ∃ b off, a = ⟨b, off, none⟩ ∧ b < W.heap.size ∧ Four W b (off + i * 4) x) (fun i hi => by
    have h0 : ∃ b off, a = ⟨b, off, none⟩ := by
      obtain ⟨cs', h1, _⟩ := hel 0 (by omega)
      obtain ⟨_, hlen, hc⟩ := World.cells?_some h1
      have := hc 0 (by rw [cells39]; omega)
      rw [cells39] at hlen
      match cs', hlen with
      | [c0, c1, c2, c3], _ =>
        simp [Addr.add] at this
        exact ⟨_, _, addr_of this⟩
    obtain ⟨b, off, rfl⟩ := h0
    obtain ⟨cs', h1, h2⟩ := hel i (by omega)
    obtain ⟨_, hlen, hc⟩ := World.cells?_some h1
    rw [cells39] at hlen hc
    match cs', hlen with
    | [c0, c1, c2, c3], _ =>
      have d0 := hc 0 (by omega)
      have d1 := hc 1 (by omega)
      have d2 := hc 2 (by omega)
      have d3 := hc 3 (by omega)
      obtain ⟨y0, y1, y2, y3, n2, _, _, g0, g1, g2, g3⟩ := trod_struct4 Try.underlying39 h2
      simp only [cells3] at g0 g1 g2 g3
      obtain ⟨k, e0, _, wk⟩ := DataW.trod_int Try.underlying3 g0
      obtain ⟨n, e1, _, wn⟩ := DataW.trod_int Try.underlying3 g1
      obtain ⟨s, e2, _, ws⟩ := DataW.trod_int Try.underlying3 g2
      obtain ⟨r, e3, _, wr⟩ := DataW.trod_int Try.underlying3 g3
      simp at e0 e1 e2 e3
      subst e0 e1 e2 e3
      rw [addr_in] at d0 d1 d2 d3
      simp at d0 d1 d2 d3
      exact ⟨⟨k, n, s, r, wk, wn, ws, wr⟩, b, off, rfl, World.block_lt_of_cell? _ _ d0, ⟨d0, d1, d2, d3⟩⟩)
  refine ⟨some a, m, (List.range len).map f, by simp, by simp; omega, fun hne => ?_⟩
  have hp : 0 < len := by
    rcases Nat.eq_zero_or_pos len with h | h
    · subst h; simp at hne
    · exact h
  obtain ⟨b, off, rfl, hb, _⟩ := hf 0 hp
  refine ⟨b, off, rfl, hb, fun j x hj => ?_⟩
  simp only [List.getElem?_map, Option.map_eq_some_iff] at hj
  obtain ⟨i, hi, rfl⟩ := hj
  obtain ⟨hi1, hi2⟩ := List.getElem?_eq_some_iff.1 hi
  simp at hi1 hi2
  subst hi2
  obtain ⟨b', off', e, _, ht⟩ := hf j hi1
  cases e
  exact ht

/-- A row of functions. -/
theorem open_fns {H : Type} {enc : TypeId × Value → H} {W : World} {v : Value} {y : DataW H × List MemPlace} {n : Nat} (h : DataW.trod enc Try.prog W 0 (fun _ => true) true n 22 [v] = some y) : ∃ a c xs, v = .slice a xs.length c ∧ RowF W.heap.size W a xs := by
  rcases open_slice Try.underlying22 h with ⟨e, _⟩ | ⟨a, len, cap, m, n', D, Pl, e, _, hl, hm, rfl, _, hel⟩
  · simp at e
    exact ⟨none, 0, [], e, by simp, fun h => absurd rfl h⟩
  simp at e
  subst e
  haveI : Inhabited Fd := ⟨⟨0, 0, by decide, by decide, none, 0, [], none, 0, []⟩⟩
  obtain ⟨f, hf⟩ := choose_lt (n := len) (p := fun i (x : Fd) => ∃ b off, a = ⟨b, off, none⟩ ∧ b < W.heap.size ∧ FAt W b (off + i * 4) x ∧ FdIn W.heap.size W x) (fun i hi => by
    have h0 : ∃ b off, a = ⟨b, off, none⟩ := by
      obtain ⟨cs', h1, _⟩ := hel 0 (by omega)
      obtain ⟨_, hlen, hc⟩ := World.cells?_some h1
      have := hc 0 (by rw [cells30]; omega)
      rw [cells30] at hlen
      match cs', hlen with
      | [c0, c1, c2, c3], _ =>
        simp [Addr.add] at this
        exact ⟨_, _, addr_of this⟩
    obtain ⟨b, off, rfl⟩ := h0
    obtain ⟨cs', h1, h2⟩ := hel i (by omega)
    obtain ⟨_, hlen, hc⟩ := World.cells?_some h1
    rw [cells30] at hlen hc
    match cs', hlen with
    | [c0, c1, c2, c3], _ =>
      have d0 := hc 0 (by omega)
      have d1 := hc 1 (by omega)
      have d2 := hc 2 (by omega)
      have d3 := hc 3 (by omega)
      obtain ⟨y0, y1, y2, y3, n2, _, _, g0, g1, g2, g3⟩ := trod_struct4 Try.underlying30 h2
      simp only [cells3, cells27, cells28] at g0 g1 g2 g3
      obtain ⟨k, e0, _, wk⟩ := DataW.trod_int Try.underlying3 g0
      obtain ⟨n, e1, _, wn⟩ := DataW.trod_int Try.underlying3 g1
      obtain ⟨ca, cc, cs, e2, hV⟩ := open_consts (v := c2) (by simpa using g2)
      obtain ⟨ia, ic, is, e3, hI⟩ := open_orders (v := c3) (by simpa using g3)
      simp at e0 e1
      subst e0 e1 e2 e3
      rw [addr_in] at d0 d1 d2 d3
      simp at d0 d1 d2 d3
      exact ⟨⟨k, n, wk, wn, ca, cc, cs, ia, ic, is⟩, b, off, rfl, World.block_lt_of_cell? _ _ d0, ⟨d0, d1, d2, d3⟩, hV, hI⟩)
  refine ⟨some a, m, (List.range len).map f, by simp, by simp; omega, fun hne => ?_⟩
  have hp : 0 < len := by
    rcases Nat.eq_zero_or_pos len with h | h
    · subst h; simp at hne
    · exact h
  obtain ⟨b, off, rfl, hb, _⟩ := hf 0 hp
  refine ⟨b, off, rfl, hb, fun j x hj => ?_⟩
  simp only [List.getElem?_map, Option.map_eq_some_iff] at hj
  obtain ⟨i, hi, rfl⟩ := hj
  obtain ⟨hi1, hi2⟩ := List.getElem?_eq_some_iff.1 hi
  simp at hi1 hi2
  subst hi2
  obtain ⟨b', off', e, _, ht⟩ := hf j hi1
  cases e
  exact ht

theorem open_code {H : Type} {enc : TypeId × Value → H} {W : World} {base : Nat} {v : Value} {d : DataW H} {p : List MemPlace} (hv : Value.okWide Try.prog W .any base 24 v)
    (h : DataW.Trod enc Try.prog W 0 (fun _ => true) true 24 v d p) : ∃ a c fs main, v = PV a fs.length c main ∧ RowF W.heap.size W a fs := by
  obtain ⟨v0, v1, y0, y1, n, rfl, _, _, h0, h1⟩ := open_agg2 Try.underlying24 (by kernel_rfl) cells24 hv h
  obtain ⟨a, c, fs, rfl, hx⟩ := open_fns h0
  obtain ⟨k, e1, _, _⟩ := DataW.trod_int Try.underlying3 h1
  simp at e1
  subst e1
  exact ⟨a, c, fs, k, rfl, hx⟩

theorem trod24 {H : Type} {enc : TypeId × Value → H} {W W' : World} {v : Value} {d : DataW H} {p : List MemPlace} (h : DataW.Trod enc Try.prog W 0 (fun _ => true) true 24 v d p) (hb : Below W.heap.size W W') (hlt : ∀ x ∈ p, x.block < W.heap.size) :
    DataW.Trod enc Try.prog W' 0 (fun b => decide (b < W.heap.size)) true 24 v d p := Below.trod laidOut (by kernel_rfl) (of_decide_eq_true (by kernel_rfl)) h hb hlt
end Go.Proofs.Ytklgjfpgclelbaa
