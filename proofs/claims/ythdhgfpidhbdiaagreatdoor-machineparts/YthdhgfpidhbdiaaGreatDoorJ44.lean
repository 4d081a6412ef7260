/- A machine's state, as a state that is handed in. A state that may be is small enough to be made anew. -/
import Derived.Test.YthdhgfpidhbdiaaGreatDoorJ38
namespace Go.Proofs.YthdhgfpidhbdiaaGreatDoor
open Go.RowKit
open Go

set_option linter.unusedSectionVars false
variable [DecidableEq Vl]

theorem frCells_at {l : List Fw} {j : Nat} {q : Fw} (hj : l[j]? = some q) : (frCells l)[j * 4]? = some (.int .i64 q.x.f) ∧ (frCells l)[j * 4 + 1]? = some (.int .i64 q.x.pc) ∧ (frCells l)[j * 4 + 2]? = some (.int .i64 q.x.d) ∧ (frCells l)[j * 4 + 3]? = some (.slice (some ⟨q.g, 0, none⟩) q.x.rs.length q.c) := by
  induction l generalizing j with
  | nil => simp at hj
  | cons x xs ih =>
    have e : frCells (x :: xs) = .int .i64 x.x.f :: .int .i64 x.x.pc :: .int .i64 x.x.d :: .slice (some ⟨x.g, 0, none⟩) x.x.rs.length x.c :: frCells xs := by simp [frCells]
    rw [e]
    cases j with
    | zero => simp at hj; subst hj; simp
    | succ j =>
      rw [show (j + 1) * 4 = j * 4 + 1 + 1 + 1 + 1 by omega]
      simp only [List.getElem?_cons_succ] at hj ⊢
      exact ih hj
theorem tbCells_at {l : List Tw} {j : Nat} {q : Tw} (hj : l[j]? = some q) : (tbCells l)[j * 2]? = some q.a ∧ (tbCells l)[j * 2 + 1]? = some q.b := by
  induction l generalizing j with
  | nil => simp at hj
  | cons x xs ih =>
    have e : tbCells (x :: xs) = x.a :: x.b :: tbCells xs := by simp [tbCells]
    rw [e]
    cases j with
    | zero => simp at hj; subst hj; simp
    | succ j =>
      rw [show (j + 1) * 2 = j * 2 + 1 + 1 by omega]
      simp only [List.getElem?_cons_succ] at hj ⊢
      exact ih hj
theorem OwnR.max {W : World} {g : Nat} {e : TypeId} {sz n cap : Nat} {xs : List Value} (h : OwnR W g e sz n cap xs) : n ≤ maxLen := by
  obtain ⟨_, _, _, h1, h2, _⟩ := h
  omega
theorem OwnR.row {W : World} {g cap : Nat} {xs : List Vl} (hO : OwnR W g 30 3 xs.length cap (flat xs)) : Row W.heap.size W (.slice (some ⟨g, 0, none⟩) xs.length cap) xs := by
  refine ⟨some ⟨g, 0, none⟩, cap, rfl, hO.max, fun _ => ⟨g, 0, rfl, hO.lt, fun j x hx => ?_⟩⟩
  obtain ⟨e0, e1, e2⟩ := flat_at' hx
  rw [Nat.zero_add]
  exact ⟨(hO.cell e0).1, (hO.cell e1).1, (hO.cell e2).1⟩
abbrev mfv (p : Mp) (s : St) : Value := .slice (some ⟨p.F, 0, none⟩) s.fr.length p.fc
abbrev mtv (p : Mp) (s : St) : Value := .slice (some ⟨p.T, 0, none⟩) s.tb.length p.tc
abbrev muv (p : Mp) (s : St) : Value := .slice (some ⟨p.U, 0, none⟩) s.out.length p.uc
theorem Mc.stin {w0 : World} {p : Mp} {fv : Value} {mn : Int} {s : St} {W : World} (h : Mc w0 p fv mn s W) : StIn W.heap.size W (mfv p s) (mtv p s) (muv p s) s := by
  refine ⟨⟨_, _, rfl, h.fo.max, fun _ => ⟨p.F, 0, rfl, h.fo.lt, fun j x hx => ?_⟩⟩, ⟨_, _, rfl, h.to.max, fun _ => ⟨p.T, 0, rfl, h.to.lt, fun j x hx => ?_⟩⟩, ⟨_, _, rfl, h.uo.max, fun _ => ⟨p.U, 0, rfl, h.uo.lt, fun j x hx => ?_⟩⟩⟩
  · rw [← h.hf, List.getElem?_map] at hx
    obtain ⟨q, hq, rfl⟩ := Option.map_eq_some_iff.1 hx
    obtain ⟨e0, e1, e2, e3⟩ := frCells_at hq
    rw [Nat.zero_add]
    exact ⟨(h.fo.cell e0).1, (h.fo.cell e1).1, (h.fo.cell e2).1, _, (h.fo.cell e3).1, (h.rg q (List.mem_of_getElem? hq)).row⟩
  · rw [← h.ht, List.getElem?_map] at hx
    obtain ⟨q, hq, rfl⟩ := Option.map_eq_some_iff.1 hx
    obtain ⟨e0, e1⟩ := tbCells_at hq
    rw [Nat.zero_add]
    have ht := h.tr q (List.mem_of_getElem? hq)
    exact ⟨_, _, (h.to.cell e0).1, (h.to.cell e1).1, ht.1.row, ht.2.row⟩
  · rw [Nat.zero_add]
    exact (h.uo.cell (by rw [List.getElem?_map, hx]; rfl)).1
end Go.Proofs.YthdhgfpidhbdiaaGreatDoor
namespace Go.Proofs.YthdhgfpidhbdiaaGreatDoor
open Go.RowKit
open Go

set_option linter.unusedSectionVars false
variable [DecidableEq Vl]

theorem VG.small {nt nf : Nat} {v : Vl} (h : VG nt nf v) : v.s.size ≤ 300 := by
  have hm := h.m
  unfold mayB at hm
  split at hm
  · simp at hm
    omega
  · split at hm
    · cases hm
    · rename_i h2
      have he : v.s.toList = [] := by
        cases hl : v.s.toList with
        | nil => rfl
        | cons x xs => rw [hl] at h2; exact absurd rfl h2
      rw [show v.s = ⟨#[]⟩ from ext_bytes (by rw [he, ByteArray.toList_eq])]
      decide
theorem Good.small {fs : List Fd} {s : St} (h : Good fs s) (hr : ∀ f ∈ fs, f.r ≤ 1000) : Small s := by
  refine ⟨h.n2, fun x hx => ?_, fun x hx v hv => ?_, h.t2, fun x hx => ?_, fun x hx => ⟨fun v hv => ((h.tg x hx).k v hv).small, fun v hv => ((h.tg x hx).v v hv).small⟩, ?_, h.o2, ?_⟩
  · obtain ⟨f, h1, _, _, _, h5, _⟩ := h.fg x hx
    have := hr f (List.mem_of_getElem? h1)
    omega
  · obtain ⟨f, _, _, _, _, _, h6⟩ := h.fg x hx
    exact (h6 v hv).small
  · have := mayT_len (h.tg x hx).m
    omega
  · have h1 := h.o1
    have h2 := h.s2
    omega
  · rcases h.e with ⟨_, _, e⟩ | ⟨_, _, e⟩ | ⟨_, _, e⟩
    · rw [e]; decide
    · exact e.small
    · rw [e]; decide
end Go.Proofs.YthdhgfpidhbdiaaGreatDoor
