/- How a table and a value that are handed in read. -/
import Derived.Test.YtkcieeckndimpaaRows
import Derived.Test.YtkcieeckndimpaaBox
import Derived.ProofKit
import Derived.LaidMore
import Derived.OpenShut
import Derived.Lib.SmallJoins
import Derived.Deep.Slices
import Derived.Carry
namespace Go.Proofs.Ytkcieeckndimpaa
open Go.ChangeShapes Go.WideShapes Go.ChangeAt Go.WideMaps Go.WideElems Go.RowKit Go.Joins Go.Deep

theorem own : ownKnob Try.prog.godebug = none := by kernel_rfl
theorem cells24 : Try.prog.cellsOf 24 = 2 := by kernel_rfl

theorem open_val {H : Type} {enc : TypeId × Value → H} {W : World} {base : Nat} {v : Value} {d : DataW H} {p : List MemPlace} (hv : Value.okWide Try.prog W .any base 26 v)
    (h : DataW.Trod enc Try.prog W 0 (fun _ => true) true 26 v d p) : ∃ x : Vl, v = x.v := by
  obtain ⟨c0, c1, c2, y0, y1, y2, m, rfl, rfl, rfl, hy0, hy1, hy2⟩ := open_agg3 Try.underlying26 (by kernel_rfl) cells26 hv h
  obtain ⟨k, e0, rfl, wk⟩ := DataW.trod_int Try.underlying3 hy0
  obtain ⟨n, e1, rfl, wn⟩ := DataW.trod_int Try.underlying2 hy1
  obtain ⟨s, e2, rfl, ws⟩ := DataW.trod_string Try.underlying9 hy2
  simp at e0 e1 e2
  subst e0 e1 e2
  exact ⟨⟨k, n, s, wk, wn, ws⟩, rfl⟩

theorem addr_of {W : World} {a : Addr} {v : Value} (h : W.cell? a = some v) : a = ⟨a.block, a.off, none⟩ := by
  obtain ⟨b, o, s⟩ := a
  cases s with
  | none => rfl
  | some s =>
    unfold World.cell? at h
    split at h <;> simp at h

/-- A row of values. -/
theorem open_row {H : Type} {enc : TypeId × Value → H} {W : World} {v : Value} {y : DataW H × List MemPlace} {n : Nat} (h : DataW.trod enc Try.prog W 0 (fun _ => true) true n 22 [v] = some y) : ∃ xs, Row W.heap.size W v xs := by
  rcases open_slice Try.underlying22 h with ⟨e, _⟩ | ⟨a, len, cap, m, n', D, Pl, e, _, hl, hm, rfl, _, hel⟩
  · simp at e
    exact ⟨[], none, 0, e, by simp, fun h => absurd rfl h⟩
  simp at e
  subst e
  haveI : Inhabited Vl := ⟨nilV⟩
  obtain ⟨f, hf⟩ := choose_lt (n := len) (p := fun i (x : Vl) => ∃ b off, a = ⟨b, off, none⟩ ∧ b < W.heap.size ∧ Three W b (off + i * 3) x) (fun i hi => by
    have h0 : ∃ b off, a = ⟨b, off, none⟩ := by
      obtain ⟨cs', h1, _⟩ := hel 0 (by omega)
      obtain ⟨_, hlen, hc⟩ := World.cells?_some h1
      have := hc 0 (by rw [cells26]; omega)
      rw [cells26] at hlen
      match cs', hlen with
      | [c0, c1, c2], _ =>
        simp [Addr.add] at this
        exact ⟨_, _, addr_of this⟩
    obtain ⟨b, off, rfl⟩ := h0
    obtain ⟨cs', h1, h2⟩ := hel i (by omega)
    obtain ⟨_, hlen, hc⟩ := World.cells?_some h1
    rw [cells26] at hlen hc
    match cs', hlen with
    | [c0, c1, c2], _ =>
      have d0 := hc 0 (by omega)
      have d1 := hc 1 (by omega)
      have d2 := hc 2 (by omega)
      obtain ⟨y0, y1, y2, n2, _, _, g0, g1, g2⟩ := trod_struct3 Try.underlying26 h2
      simp only [cells3, cells2, cells9] at g0 g1 g2
      obtain ⟨k, e0, _, wk⟩ := DataW.trod_int Try.underlying3 g0
      obtain ⟨n, e1, _, wn⟩ := DataW.trod_int Try.underlying2 g1
      obtain ⟨s, e2, _, ws⟩ := DataW.trod_string Try.underlying9 g2
      simp at e0 e1 e2
      subst e0 e1 e2
      have ha : ∀ j, (Addr.add (Addr.add ⟨b, off, none⟩ (i * 3)) j) = ⟨b, off + i * 3 + j, none⟩ := fun j => by
        simp only [Addr.add]
        split <;> split <;> simp_all <;> omega
      rw [ha] at d0 d1 d2
      simp at d0 d1 d2
      exact ⟨⟨k, n, s, wk, wn, ws⟩, b, off, rfl, World.block_lt_of_cell? _ _ d0, ⟨d0, d1, d2⟩⟩)
  refine ⟨(List.range len).map f, some a, m, by simp, by simp; omega, fun hne => ?_⟩
  have hp : 0 < len := by
    rcases Nat.eq_zero_or_pos len with h | h
    · subst h; simp at hne
    · exact h
  obtain ⟨b, off, rfl, hb, _⟩ := hf 0 hp
  refine ⟨b, off, rfl, hb, fun j x hj => ?_⟩
  simp only [List.getElem?_map, Option.map_eq_some_iff] at hj
  obtain ⟨i, hi, rfl⟩ := hj
  obtain ⟨hi1, hi2⟩ := List.getElem?_eq_some_iff.1 hi
  simp at hi1 hi2
  subst hi2
  obtain ⟨b', off', e, _, ht⟩ := hf j hi1
  cases e
  exact ht

theorem open_tab {H : Type} {enc : TypeId × Value → H} {W : World} {base : Nat} {v : Value} {d : DataW H} {p : List MemPlace} (hv : Value.okWide Try.prog W .any base 24 v)
    (h : DataW.Trod enc Try.prog W 0 (fun _ => true) true 24 v d p) : ∃ ks vs xs ys, v = .agg #[ks, vs] ∧ Tab W.heap.size W ks vs xs ys := by
  obtain ⟨v0, v1, y0, y1, n, rfl, _, _, h0, h1⟩ := open_agg2 Try.underlying24 (by kernel_rfl) cells24 hv h
  obtain ⟨xs, hx⟩ := open_row h0
  obtain ⟨ys, hy⟩ := open_row h1
  exact ⟨v0, v1, xs, ys, rfl, hx, hy⟩

theorem trod24 {H : Type} {enc : TypeId × Value → H} {W W' : World} {v : Value} {d : DataW H} {p : List MemPlace} (h : DataW.Trod enc Try.prog W 0 (fun _ => true) true 24 v d p) (hb : Below W.heap.size W W') (hlt : ∀ x ∈ p, x.block < W.heap.size) :
    DataW.Trod enc Try.prog W' 0 (fun b => decide (b < W.heap.size)) true 24 v d p := Below.trod laidOut (by kernel_rfl) (of_decide_eq_true (by kernel_rfl)) h hb hlt
theorem trod26 {H : Type} {enc : TypeId × Value → H} {W W' : World} {v : Value} {d : DataW H} {p : List MemPlace} (h : DataW.Trod enc Try.prog W 0 (fun _ => true) true 26 v d p) (hb : Below W.heap.size W W') (hlt : ∀ x ∈ p, x.block < W.heap.size) :
    DataW.Trod enc Try.prog W' 0 (fun b => decide (b < W.heap.size)) true 26 v d p := Below.trod laidOut (by kernel_rfl) (of_decide_eq_true (by kernel_rfl)) h hb hlt

end Go.Proofs.Ytkcieeckndimpaa
