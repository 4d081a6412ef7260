/- The machine in memory: frames, tables and texts come and go. The machine's small questions: need, refuse, Top, Order. The machine's tables: NewTable, Set, Tell; a frame. A frame of a function. A value once more, in memory of its own; a row of values. -/
import Derived.Test.YthdhgfpidhbdiaaGreatDoorJ25
import Derived.Deep.RegionHeld3
import Derived.Deep.QuietTactic
import Derived.BigQuiet
import Derived.Lib.Hide
import Derived.Deep.RegionLaw
namespace Go.Proofs.YthdhgfpidhbdiaaGreatDoor
open Go.RowKit
open Go

set_option linter.unusedSectionVars false
variable [DecidableEq Vl]

section
variable {w0 : World} {p : Mp} {fv : Value} {mn : Int} {s : St} {W : World}
/-- The frame on top goes. -/
theorem Mc.pop (h : Mc w0 p fv mn s W) {l : List Fw} {q : Fw} (e : p.fw = l ++ [q]) :
    Mc w0 { p with fw := l } fv mn { s with fr := l.map Fw.x } (W.setCell ⟨p.B, 2, none⟩ (.slice (some ⟨p.F, 0, none⟩) l.length p.fc)) ∧ MK p.own W ({ p with fw := l } : Mp).own (W.setCell ⟨p.B, 2, none⟩ (.slice (some ⟨p.F, 0, none⟩) l.length p.fc)) := by
  have a := apart_of h.nd
  have hlen := h.len.1
  rw [e] at hlen
  simp at hlen
  have hsub : ∀ z ∈ l, z ∈ p.fw := fun z hz => by rw [e]; exact List.mem_append_left _ hz
  have hoth : ∀ b, b ≠ p.B → (W.setCell ⟨p.B, 2, none⟩ (.slice (some ⟨p.F, 0, none⟩) l.length p.fc)).heap[b]? = W.heap[b]? := fun b hb => set1_other _ _ hb
  have hk : MK p.own W ({ p with fw := l } : Mp).own (W.setCell ⟨p.B, 2, none⟩ (.slice (some ⟨p.F, 0, none⟩) l.length p.fc)) := by
    refine ⟨(MK.set own_B).k, fun k hk => .inl ?_⟩
    simp only [Mp.own, List.mem_cons, List.mem_map] at hk ⊢
    rcases hk with h | h | h | h | ⟨z, hz, h⟩
    · exact .inl h
    · exact .inr (.inl h)
    · exact .inr (.inr (.inl h))
    · exact .inr (.inr (.inr (.inl h)))
    · exact .inr (.inr (.inr (.inr ⟨z, hsub z hz, h⟩)))
  refine ⟨h.re rfl hk ?_ ?_ ?_ (h.to.same (hoth _ a.bt.symm)) (h.uo.same (hoth _ a.bu.symm)) (fun z hz => (h.rg z (hsub z hz)).same (hoth _ (a.gb z (hsub z hz)))) rfl h.ht (fun q hq => .inl hq), hk⟩
  · have hn := a.gg
    rw [e, List.map_append] at hn
    exact ⟨a.bf, a.bt, a.bu, a.ft, a.fu, a.tu, fun z hz => a.gb z (hsub z hz), fun z hz => a.gf z (hsub z hz), fun z hz => a.gt z (hsub z hz), fun z hz => a.gu z (hsub z hz), (List.nodup_append.1 hn).1⟩
  · have := set_block (i := 2) (.slice (some ⟨p.F, 0, none⟩) l.length p.fc) h.box
    refine this.trans ?_
    simp [mcb]
  · have := (h.fo.same (hoth _ a.bf.symm)).less (m := l.length) (by omega)
    show OwnR _ p.F 50 4 (l.map Fw.x).length p.fc (frCells l)
    rw [e, frCells_append, List.take_left' (frCells_len l)] at this
    rw [List.length_map]
    exact this
/-- A frame more; its registers lie in a new block. -/
theorem Mc.push {V w3 : World} (h : Mc w0 p fv mn s W) (hm : MK p.own W p.own V) (h' : Mc w0 p fv mn s V) {q : Fw} (hq1 : W.heap.size ≤ q.g) (hq : OwnR V q.g 30 3 q.x.rs.length q.c (flat q.x.rs)) {g cap base : Nat}
    (hown : w3.ownsRow base 50 4 (.slice (some ⟨g, 0, none⟩) (s.fr.length + 1) cap) (s.fr.length + 1) (frCells p.fw ++ q.cells)) (hg : V.grownBy w3 (some p.F)) (hat : p.F = g ∨ g = V.heap.size) :
    ∃ p', p'.B = p.B ∧ p'.ap = p.ap ∧ Mc w0 p' fv mn { s with fr := s.fr ++ [q.x] } (w3.setCell ⟨p.B, 2, none⟩ (.slice (some ⟨g, 0, none⟩) (s.fr.length + 1) cap)) ∧ MK p.own W p'.own (w3.setCell ⟨p.B, 2, none⟩ (.slice (some ⟨g, 0, none⟩) (s.fr.length + 1) cap)) := by
  have a := apart_of h.nd
  have hl := h'.lt
  have hlW := h.lt
  have hsz := hm.k.size
  have hnot : q.g ∉ p.own := fun e => by have := hlW _ e; omega
  have hgo : g ∈ p.own ∨ V.heap.size ≤ g := by
    rcases hat with e | e
    · exact .inl (e ▸ own_F)
    · exact .inr (by omega)
  have hnew : ∀ k ∈ p.own, k ≠ p.F → k ≠ g := fun k hk hne e => by
    rcases hat with e2 | e2
    · exact hne (by omega)
    · have := hl k hk; omega
  have hgB := hnew p.B own_B a.bf
  have hgT := hnew p.T own_T a.ft.symm
  have hgU := hnew p.U own_U a.fu.symm
  have hgg : ∀ z ∈ p.fw, z.g ≠ g := fun z hz => hnew z.g (own_g hz) (a.gf z hz)
  have hqg : q.g ≠ g := fun e => by
    rcases hat with e2 | e2
    · exact hnot (by rw [e, ← e2]; exact own_F)
    · have := hq.lt; omega
  have hoth : ∀ b, b < V.heap.size → b ≠ p.F → b ≠ p.B → (w3.setCell ⟨p.B, 2, none⟩ (.slice (some ⟨g, 0, none⟩) (s.fr.length + 1) cap)).heap[b]? = V.heap[b]? := fun b hb h1 h2 => (set1_other _ _ h2).trans (hg.block b hb (fun e => h1 (by cases e; rfl)))
  have hgow := OwnR.of hown
  have hk : MK p.own W ({ p with F := g, fc := cap, fw := p.fw ++ [q] } : Mp).own (w3.setCell ⟨p.B, 2, none⟩ (.slice (some ⟨g, 0, none⟩) (s.fr.length + 1) cap)) := by
    refine ⟨hm.k.then (((Keeps.grown hg).mono (fun k _ e => by cases e; exact own_F)).set p.B 2 _ (fun _ => own_B)) (fun j _ hj => hj), fun k hk => ?_⟩
    simp only [Mp.own, List.mem_cons, List.map_append, List.map_cons, List.map_nil, List.mem_append, List.mem_map] at hk
    rcases hk with h1 | h1 | h1 | h1 | ⟨z, hz, h1⟩ | h1 | h1
    · exact .inl (h1 ▸ own_B)
    · rcases hgo with h2 | h2
      · exact .inl (h1 ▸ h2)
      · exact .inr (by omega)
    · exact .inl (h1 ▸ own_T)
    · exact .inl (h1 ▸ own_U)
    · exact .inl (h1 ▸ own_g hz)
    · exact .inr (by omega)
    · cases h1
  refine ⟨{ p with F := g, fc := cap, fw := p.fw ++ [q] }, rfl, rfl, h.re rfl hk ?_ ?_ ?_ ?_ ?_ ?_ ?_ h.ht (fun q hq => .inl hq), hk⟩
  · refine ⟨hgB, a.bt, a.bu, hgT.symm, hgU.symm, a.tu, ?_, ?_, ?_, ?_, ?_⟩
    · intro z hz
      rcases List.mem_append.1 hz with hz | hz
      · exact a.gb z hz
      · simp only [List.mem_singleton] at hz; subst hz; exact fun e => hnot (e ▸ own_B)
    · intro z hz
      rcases List.mem_append.1 hz with hz | hz
      · exact hgg z hz
      · simp only [List.mem_singleton] at hz; subst hz; exact hqg
    · intro z hz
      rcases List.mem_append.1 hz with hz | hz
      · exact a.gt z hz
      · simp only [List.mem_singleton] at hz; subst hz; exact fun e => hnot (e ▸ own_T)
    · intro z hz
      rcases List.mem_append.1 hz with hz | hz
      · exact a.gu z hz
      · simp only [List.mem_singleton] at hz; subst hz; exact fun e => hnot (e ▸ own_U)
    · rw [List.map_append, List.nodup_append]
      refine ⟨a.gg, by simp, fun x hx y hy => ?_⟩
      obtain ⟨z, hz, rfl⟩ := List.mem_map.1 hx
      simp at hy
      subst hy
      exact fun e => hnot (e ▸ own_g hz)
  · have hb3 : w3.heap[p.B]? = V.heap[p.B]? := hg.block _ (hl _ own_B) (fun e => a.bf (Option.some.inj e))
    have := set_block (i := 2) (.slice (some ⟨g, 0, none⟩) (s.fr.length + 1) cap) (hb3.trans h'.box)
    refine this.trans ?_
    simp [mcb]
  · have := hgow.1.same (W' := w3.setCell ⟨p.B, 2, none⟩ (.slice (some ⟨g, 0, none⟩) (s.fr.length + 1) cap)) (set1_other _ _ hgB.symm)
    show OwnR _ g 50 4 (s.fr ++ [q.x]).length cap (frCells (p.fw ++ [q]))
    rw [frCells_append, List.length_append]
    simpa [frCells] using this
  · exact h'.to.same (hoth _ (hl _ own_T) a.ft.symm a.bt.symm)
  · exact h'.uo.same (hoth _ (hl _ own_U) a.fu.symm a.bu.symm)
  · intro z hz
    rcases List.mem_append.1 hz with hz | hz
    · exact (h'.rg z hz).same (hoth _ (hl _ (own_g hz)) (a.gf z hz) (a.gb z hz))
    · simp only [List.mem_singleton] at hz
      subst hz
      exact hq.same (hoth _ hq.lt (fun e => hnot (e ▸ own_F)) (fun e => hnot (e ▸ own_B)))
  · show (p.fw ++ [q]).map Fw.x = s.fr ++ [q.x]
    rw [List.map_append, h.hf]; rfl
/-- A table more, empty. -/
theorem Mc.pushT {V w3 : World} (h : Mc w0 p fv mn s V) {g cap base : Nat}
    (hown : w3.ownsRow base 57 2 (.slice (some ⟨g, 0, none⟩) (s.tb.length + 1) cap) (s.tb.length + 1) (tbCells p.tw ++ [.slice none 0 0, .slice none 0 0])) (hg : V.grownBy w3 (some p.T)) (hat : p.T = g ∨ g = V.heap.size) :
    ∃ p', p'.B = p.B ∧ p'.ap = p.ap ∧ p'.fw = p.fw ∧ p'.F = p.F ∧ Mc w0 p' fv mn { s with tb := s.tb ++ [⟨[], []⟩] } (w3.setCell ⟨p.B, 3, none⟩ (.slice (some ⟨g, 0, none⟩) (s.tb.length + 1) cap)) ∧ MK p.own V p'.own (w3.setCell ⟨p.B, 3, none⟩ (.slice (some ⟨g, 0, none⟩) (s.tb.length + 1) cap)) := by
  have a := apart_of h.nd
  have hl := h.lt
  have hgo : g ∈ p.own ∨ V.heap.size ≤ g := by
    rcases hat with e | e
    · exact .inl (e ▸ own_T)
    · exact .inr (by omega)
  have hnew : ∀ k ∈ p.own, k ≠ p.T → k ≠ g := fun k hk hne e => by
    rcases hat with e2 | e2
    · exact hne (by omega)
    · have := hl k hk; omega
  have hgB := hnew p.B own_B a.bt
  have hgF := hnew p.F own_F a.ft
  have hgU := hnew p.U own_U a.tu.symm
  have hgg : ∀ z ∈ p.fw, z.g ≠ g := fun z hz => hnew z.g (own_g hz) (a.gt z hz)
  have hoth : ∀ b, b < V.heap.size → b ≠ p.T → b ≠ p.B → (w3.setCell ⟨p.B, 3, none⟩ (.slice (some ⟨g, 0, none⟩) (s.tb.length + 1) cap)).heap[b]? = V.heap[b]? := fun b hb h1 h2 => (set1_other _ _ h2).trans (hg.block b hb (fun e => h1 (by cases e; rfl)))
  have hgow := OwnR.of hown
  have hk : MK p.own V ({ p with T := g, tc := cap, tw := p.tw ++ [⟨⟨[], []⟩, .slice none 0 0, .slice none 0 0⟩] } : Mp).own (w3.setCell ⟨p.B, 3, none⟩ (.slice (some ⟨g, 0, none⟩) (s.tb.length + 1) cap)) := by
    refine ⟨((Keeps.grown hg).mono (fun k _ e => by cases e; exact own_T)).set p.B 3 _ (fun _ => own_B), fun k hk => ?_⟩
    simp only [Mp.own, List.mem_cons, List.mem_map] at hk
    rcases hk with h1 | h1 | h1 | h1 | ⟨z, hz, h1⟩
    · exact .inl (h1 ▸ own_B)
    · exact .inl (h1 ▸ own_F)
    · rcases hgo with h2 | h2
      · exact .inl (h1 ▸ h2)
      · exact .inr (by omega)
    · exact .inl (h1 ▸ own_U)
    · exact .inl (h1 ▸ own_g hz)
  refine ⟨{ p with T := g, tc := cap, tw := p.tw ++ [⟨⟨[], []⟩, .slice none 0 0, .slice none 0 0⟩] }, rfl, rfl, rfl, rfl, h.re rfl hk ?_ ?_ ?_ ?_ ?_ ?_ h.hf ?_ ?_, hk⟩
  · exact ⟨a.bf, hgB, a.bu, hgF, a.fu, hgU.symm, a.gb, a.gf, hgg, a.gu, a.gg⟩
  · have hb3 : w3.heap[p.B]? = V.heap[p.B]? := hg.block _ (hl _ own_B) (fun e => a.bt (Option.some.inj e))
    have := set_block (i := 3) (.slice (some ⟨g, 0, none⟩) (s.tb.length + 1) cap) (hb3.trans h.box)
    refine this.trans ?_
    simp [mcb]
  · exact h.fo.same (hoth _ (hl _ own_F) a.ft a.bf.symm)
  · have := hgow.1.same (W' := w3.setCell ⟨p.B, 3, none⟩ (.slice (some ⟨g, 0, none⟩) (s.tb.length + 1) cap)) (set1_other _ _ hgB.symm)
    show OwnR _ g 57 2 (s.tb ++ [(⟨[], []⟩ : Tb)]).length cap (tbCells (p.tw ++ [(⟨⟨[], []⟩, .slice none 0 0, .slice none 0 0⟩ : Tw)]))
    rw [tbCells_append, List.length_append]
    simpa [tbCells] using this
  · exact h.uo.same (hoth _ (hl _ own_U) a.tu.symm a.bu.symm)
  · exact fun z hz => (h.rg z hz).same (hoth _ (hl _ (own_g hz)) (a.gt z hz) (a.gb z hz))
  · show (p.tw ++ [_]).map Tw.t = s.tb ++ [_]
    rw [List.map_append, h.ht]; rfl
  · intro z hz
    rcases List.mem_append.1 hz with hz | hz
    · exact .inl hz
    · simp only [List.mem_singleton] at hz
      subst hz
      exact .inr ⟨⟨none, 0, rfl, by simp, fun h => absurd rfl h⟩, ⟨none, 0, rfl, by simp, fun h => absurd rfl h⟩⟩
/-- A text more. -/
theorem Mc.pushU {V w3 : World} (h : Mc w0 p fv mn s V) {t : ByteArray} {g cap base : Nat}
    (hown : w3.ownsRow base 9 1 (.slice (some ⟨g, 0, none⟩) (s.out.length + 1) cap) (s.out.length + 1) (s.out.map Value.string ++ [.string t])) (hg : V.grownBy w3 (some p.U)) (hat : p.U = g ∨ g = V.heap.size) :
    ∃ p', p'.B = p.B ∧ p'.ap = p.ap ∧ p'.fw = p.fw ∧ p'.F = p.F ∧ Mc w0 p' fv mn { s with out := s.out ++ [t] } (w3.setCell ⟨p.B, 4, none⟩ (.slice (some ⟨g, 0, none⟩) (s.out.length + 1) cap)) ∧ MK p.own V p'.own (w3.setCell ⟨p.B, 4, none⟩ (.slice (some ⟨g, 0, none⟩) (s.out.length + 1) cap)) := by
  have a := apart_of h.nd
  have hl := h.lt
  have hgo : g ∈ p.own ∨ V.heap.size ≤ g := by
    rcases hat with e | e
    · exact .inl (e ▸ own_U)
    · exact .inr (by omega)
  have hnew : ∀ k ∈ p.own, k ≠ p.U → k ≠ g := fun k hk hne e => by
    rcases hat with e2 | e2
    · exact hne (by omega)
    · have := hl k hk; omega
  have hgB := hnew p.B own_B a.bu
  have hgF := hnew p.F own_F a.fu
  have hgT := hnew p.T own_T a.tu
  have hgg : ∀ z ∈ p.fw, z.g ≠ g := fun z hz => hnew z.g (own_g hz) (a.gu z hz)
  have hoth : ∀ b, b < V.heap.size → b ≠ p.U → b ≠ p.B → (w3.setCell ⟨p.B, 4, none⟩ (.slice (some ⟨g, 0, none⟩) (s.out.length + 1) cap)).heap[b]? = V.heap[b]? := fun b hb h1 h2 => (set1_other _ _ h2).trans (hg.block b hb (fun e => h1 (by cases e; rfl)))
  have hgow := OwnR.of hown
  have hk : MK p.own V ({ p with U := g, uc := cap } : Mp).own (w3.setCell ⟨p.B, 4, none⟩ (.slice (some ⟨g, 0, none⟩) (s.out.length + 1) cap)) := by
    refine ⟨((Keeps.grown hg).mono (fun k _ e => by cases e; exact own_U)).set p.B 4 _ (fun _ => own_B), fun k hk => ?_⟩
    simp only [Mp.own, List.mem_cons, List.mem_map] at hk
    rcases hk with h1 | h1 | h1 | h1 | ⟨z, hz, h1⟩
    · exact .inl (h1 ▸ own_B)
    · exact .inl (h1 ▸ own_F)
    · exact .inl (h1 ▸ own_T)
    · rcases hgo with h2 | h2
      · exact .inl (h1 ▸ h2)
      · exact .inr (by omega)
    · exact .inl (h1 ▸ own_g hz)
  refine ⟨{ p with U := g, uc := cap }, rfl, rfl, rfl, rfl, h.re rfl hk ?_ ?_ ?_ ?_ ?_ ?_ h.hf h.ht (fun q hq => .inl hq), hk⟩
  · exact ⟨a.bf, a.bt, hgB, a.ft, hgF, hgT, a.gb, a.gf, a.gt, hgg, a.gg⟩
  · have hb3 : w3.heap[p.B]? = V.heap[p.B]? := hg.block _ (hl _ own_B) (fun e => a.bu (Option.some.inj e))
    have := set_block (i := 4) (.slice (some ⟨g, 0, none⟩) (s.out.length + 1) cap) (hb3.trans h.box)
    refine this.trans ?_
    simp [mcb]
  · exact h.fo.same (hoth _ (hl _ own_F) a.fu a.bf.symm)
  · exact h.to.same (hoth _ (hl _ own_T) a.tu a.bt.symm)
  · have := hgow.1.same (W' := w3.setCell ⟨p.B, 4, none⟩ (.slice (some ⟨g, 0, none⟩) (s.out.length + 1) cap)) (set1_other _ _ hgB.symm)
    show OwnR _ g 9 1 (s.out ++ [t]).length cap ((s.out ++ [t]).map Value.string)
    rw [List.map_append, List.length_append]
    exact this
  · exact fun z hz => (h.rg z hz).same (hoth _ (hl _ (own_g hz)) (a.gu z hz) (a.gb z hz))
theorem tbCells_set (l : List Tw) (i : Nat) (q : Tw) : tbCells (l.set i q) = ((tbCells l).set (i * 2) q.a).set (i * 2 + 1) q.b := by
  induction l generalizing i with
  | nil => simp [tbCells]
  | cons x xs ih =>
    cases i with
    | zero => simp [tbCells]
    | succ i =>
      have e : ∀ (y : Tw) (zs : List Tw), tbCells (y :: zs) = y.a :: y.b :: tbCells zs := fun y zs => by simp [tbCells]
      rw [List.set_cons_succ, e, ih, e, show (i + 1) * 2 = i * 2 + 1 + 1 by omega]
      simp only [List.set_cons_succ]
/-- A table's cells. -/
theorem Mc.tabCells (h : Mc w0 p fv mn s W) {i : Nat} {t : Tb} (ht : s.tb[i]? = some t) : ∃ q, p.tw[i]? = some q ∧ q.t = t ∧ W.cell? ⟨p.T, i * 2, none⟩ = some q.a ∧ W.cell? ⟨p.T, i * 2 + 1, none⟩ = some q.b ∧ W.frozen? ⟨p.T, i * 2, none⟩ = false ∧ W.frozen? ⟨p.T, i * 2 + 1, none⟩ = false ∧ Rw W (p.own ++ p.ap) q.a t.ks ∧ Rw W (p.own ++ p.ap) q.b t.vs := by
  rw [← h.ht, List.getElem?_map] at ht
  obtain ⟨q, hq, rfl⟩ := Option.map_eq_some_iff.1 ht
  have key : ∀ (l : List Tw) (i : Nat), l[i]? = some q → (tbCells l)[i * 2]? = some q.a ∧ (tbCells l)[i * 2 + 1]? = some q.b := by
    intro l
    induction l with
    | nil => intro i hi; simp at hi
    | cons x xs ih =>
      intro i hi
      have e : tbCells (x :: xs) = x.a :: x.b :: tbCells xs := by simp [tbCells]
      rw [e]
      cases i with
      | zero => simp at hi; subst hi; simp
      | succ i =>
        rw [show (i + 1) * 2 = i * 2 + 1 + 1 by omega]
        simp only [List.getElem?_cons_succ] at hi ⊢
        exact ih i hi
  obtain ⟨k1, k2⟩ := key _ _ hq
  have hm := List.mem_of_getElem? hq
  exact ⟨q, hq, rfl, (h.to.cell k1).1, (h.to.cell k2).1, (h.to.cell k1).2, (h.to.cell k2).2, (h.tr q hm).1, (h.tr q hm).2⟩
theorem rw_of_own {W : World} {O : List Nat} {base : Nat} {v : Value} {xs : List Vl} (h : W.ownsRow base 30 3 v xs.length (flat xs)) (hO : ∀ k ∈ O, k < base) : Rw W O v xs := by
  obtain ⟨a, cap, e, hl, hx⟩ := row_of_own h
  refine ⟨a, cap, e, hl, fun hne => ?_⟩
  obtain ⟨b, off, ea, hb, hc⟩ := hx hne
  refine ⟨b, off, ea, fun hk => ?_, hb, hc⟩
  have := hO b hk
  have hge := (own_ge h (b := b) (by rw [e, ea]; rfl)).1
  omega
/-- A table becomes another one, in new memory. -/
theorem Mc.setTab {V : World} (h : Mc w0 p fv mn s W) (hb : Below W.heap.size W V) (i : Nat) {t : Tb} {a b : Value} (ho : Own2 W.heap.size V a b t.ks t.vs) :
    ∃ p', p'.B = p.B ∧ p'.ap = p.ap ∧ p'.fw = p.fw ∧ p'.F = p.F ∧ Mc w0 p' fv mn { s with tb := s.tb.set i t } ((V.setCell ⟨p.T, i * 2, none⟩ a).setCell ⟨p.T, i * 2 + 1, none⟩ b) ∧ MK p.own W p'.own ((V.setCell ⟨p.T, i * 2, none⟩ a).setCell ⟨p.T, i * 2 + 1, none⟩ b) := by
  have hV := h.on hb
  have ap := apart_of h.nd
  have hk0 : MK p.own V p.own ((V.setCell ⟨p.T, i * 2, none⟩ a).setCell ⟨p.T, i * 2 + 1, none⟩ b) := (MK.set own_T).trans (MK.set own_T)
  have hoth : ∀ c, c ≠ p.T → ((V.setCell ⟨p.T, i * 2, none⟩ a).setCell ⟨p.T, i * 2 + 1, none⟩ b).heap[c]? = V.heap[c]? := fun c hc => (set1_other _ _ hc).trans (set1_other _ _ hc)
  have hk : MK p.own W ({ p with tw := p.tw.set i ⟨t, a, b⟩ } : Mp).own ((V.setCell ⟨p.T, i * 2, none⟩ a).setCell ⟨p.T, i * 2 + 1, none⟩ b) := (MK.below hb).trans hk0
  refine ⟨{ p with tw := p.tw.set i ⟨t, a, b⟩ }, rfl, rfl, rfl, rfl, h.re rfl hk ?_ ?_ ?_ ?_ ?_ ?_ h.hf ?_ ?_, hk⟩
  · exact ⟨ap.bf, ap.bt, ap.bu, ap.ft, ap.fu, ap.tu, ap.gb, ap.gf, ap.gt, ap.gu, ap.gg⟩
  · refine (hoth _ ap.bt).trans ?_
    rw [hV.box]
    simp
  · exact hV.fo.same (hoth _ ap.ft)
  · have := (hV.to.set (i * 2) a).set (i * 2 + 1) b
    show OwnR _ p.T 57 2 (s.tb.set i t).length p.tc (tbCells (p.tw.set i ⟨t, a, b⟩))
    rw [tbCells_set, List.length_set]
    exact this
  · exact hV.uo.same (hoth _ ap.tu.symm)
  · exact fun z hz => (hV.rg z hz).same (hoth _ (ap.gt z hz))
  · show (p.tw.set i ⟨t, a, b⟩).map Tw.t = s.tb.set i t
    rw [List.map_set, h.ht]
  · intro z hz
    rcases List.mem_or_eq_of_mem_set hz with hz | rfl
    · exact .inl hz
    · have hlt : ∀ k ∈ p.own ++ p.ap, k < W.heap.size := fun k hk' => by
        rcases List.mem_append.1 hk' with h1 | h1
        · exact h.lt k h1
        · exact (h.al k h1).1
      have k1 := (rw_of_own ho.k hlt).keepA hk0
      have k2 := (rw_of_own ho.v hlt).keepA hk0
      exact .inr ⟨k1, k2⟩
end
end Go.Proofs.YthdhgfpidhbdiaaGreatDoor
namespace Go.Proofs.YthdhgfpidhbdiaaGreatDoor
open Go.RowKit
open Go

set_option linter.unusedSectionVars false
variable [DecidableEq Vl]

abbrev pan (v : Value) : List PanicEntry := [{ v := v, recovered := false }]
abbrev flr (c : Int) : Value := .iface 112 (.agg #[.int .i64 c])
set_option maxHeartbeats 400000 in
theorem need_ok (W : World) : Calls Tryz.prog 114 #[.int .i64 0] W fun e W' => e = .returned (.tuple #[]) ∧ W' = W := by
  go_enter Tryz.func114, Tryz.ntmps114
  go_wp2
  go_end0
  exact ⟨rfl, rfl⟩
set_option maxHeartbeats 400000 in
theorem need_no (c : Int) (W : World) (h : (c != 0) = true) : Calls Tryz.prog 114 #[.int .i64 c] W fun e W' => e = .panicked (pan (flr c)) ∧ W' = W := by
  go_enter Tryz.func114, Tryz.ntmps114
  go_wp2
  exact ⟨rfl, rfl, rfl⟩
set_option maxHeartbeats 400000 in
theorem refuse_ok (c : Int) (W : World) : Calls Tryz.prog 97 #[.bool false, .int .i64 c] W fun e W' => e = .returned (.tuple #[]) ∧ W' = W := by
  go_enter Tryz.func97, Tryz.ntmps97
  go_wp2
  go_end0
  exact ⟨rfl, rfl⟩
set_option maxHeartbeats 400000 in
theorem refuse_no (c : Int) (W : World) (h : (c != 0) = true) : Calls Tryz.prog 97 #[.bool true, .int .i64 c] W fun e W' => e = .panicked (pan (flr c)) ∧ W' = W := by
  have hn := need_no c
  go_enter Tryz.func97, Tryz.ntmps97
  go_wp2_with (go_at_call 114; refine (hn _ h).mono ?_; rintro e w' ⟨rfl, rfl⟩)
  exact ⟨rfl, rfl, rfl⟩

section
variable {w0 : World} {p : Mp} {fv : Value} {mn : Int} {s : St} {W : World}
theorem Mc.cells (h : Mc w0 p fv mn s W) : W.cell? ⟨p.B, 0, none⟩ = some fv ∧ W.cell? ⟨p.B, 1, none⟩ = some (.int .i64 mn) ∧ W.cell? ⟨p.B, 2, none⟩ = some (.slice (some ⟨p.F, 0, none⟩) s.fr.length p.fc) ∧ W.cell? ⟨p.B, 3, none⟩ = some (.slice (some ⟨p.T, 0, none⟩) s.tb.length p.tc) ∧ W.cell? ⟨p.B, 4, none⟩ = some (.slice (some ⟨p.U, 0, none⟩) s.out.length p.uc) ∧ W.cell? ⟨p.B, 5, none⟩ = some (.int .i64 s.st) ∧ W.cell? ⟨p.B, 6, none⟩ = some (.int .i64 s.en) ∧ W.cell? ⟨p.B, 7, none⟩ = some (.int .i64 s.er) ∧ W.cell? ⟨p.B, 8, none⟩ = some (.int .i64 s.la.k) ∧ W.cell? ⟨p.B, 9, none⟩ = some (.int .i64 s.la.n) ∧ W.cell? ⟨p.B, 10, none⟩ = some (.string s.la.s) ∧ ∀ i, W.frozen? ⟨p.B, i, none⟩ = false :=
  ⟨cell_block h.box rfl, cell_block h.box rfl, cell_block h.box rfl, cell_block h.box rfl, cell_block h.box rfl, cell_block h.box rfl, cell_block h.box rfl, cell_block h.box rfl, cell_block h.box rfl, cell_block h.box rfl, cell_block h.box rfl, fun _ => frozen_block h.box⟩
set_option maxRecDepth 20000 in
set_option maxHeartbeats 1000000 in
/-- The frame at work. -/
theorem top_cell (B F fc k : Nat) (W : World) (c2 : W.cell? ⟨B, 2, none⟩ = some (.slice (some ⟨F, 0, none⟩) (k + 1) fc)) (hk : k ≤ 1000) :
    Calls Tryz.prog 76 #[.pointer (some ⟨B, 0, none⟩)] W fun e W' => e = .returned (.pointer (some ⟨F, k * 4, none⟩)) ∧ ∃ n, W' = W.drewN n := by
  go_enter Tryz.func76, Tryz.ntmps76
  go_wp2
  go_quiet ((fail))
  go_wp2
  go_ret
  exact ⟨rfl, _, rfl⟩
end
end Go.Proofs.YthdhgfpidhbdiaaGreatDoor
namespace Go.Proofs.YthdhgfpidhbdiaaGreatDoor
open Go.RowKit
open Go

set_option linter.unusedSectionVars false
variable [DecidableEq Vl]

theorem info57 : (Tryz.prog.info? 57).map (fun i => (i.zero, i.size, i.bytes)) = some (some (.agg #[.slice none 0 0, .slice none 0 0]), 2, 48) := by kernel_rfl
theorem info50 : (Tryz.prog.info? 50).map (fun i => (i.zero, i.size, i.bytes)) = some (some (.agg #[.int .i64 0, .int .i64 0, .int .i64 0, .slice none 0 0]), 4, 48) := by kernel_rfl
theorem info9 : (Tryz.prog.info? 9).map (fun i => (i.zero, i.size, i.bytes)) = some (some (.string ⟨#[]⟩), 1, 16) := by kernel_rfl
theorem info_parts {T : TypeId} {z : Value} {sz by' : Nat} (h : (Tryz.prog.info? T).map (fun i => (i.zero, i.size, i.bytes)) = some (some z, sz, by')) : ∃ i, Tryz.prog.info? T = some i ∧ i.zero = some z ∧ i.size = sz ∧ i.bytes = by' := by
  obtain ⟨i, h1, h2⟩ := Option.map_eq_some_iff.1 h
  simp only [Prod.mk.injEq] at h2
  exact ⟨i, h1, h2.1, h2.2.1, h2.2.2⟩
theorem res98 {tm : Array Value} {W : World} {B : Nat} {x : Vl} (h : tm[2]?.getD undef = .pointer (some ⟨B, 0, none⟩)) (hx : W.heap[B]? = some (bx x)) : (results Tryz.f98 tm).run Tryz.prog W = .ok x.v W := by
  obtain ⟨c0, c1, c2, _, _, _⟩ := in3 hx
  simp [results, Tryz.results98, go_sem, h, c0, c1, c2]
theorem MK.scratch {O O' : List Nat} {W Y X : World} {c : Nat} (h : MK O W O' Y) (hk : Keeps (· = c) Y X) (hc : W.heap.size ≤ c) : MK O W O' X := ⟨h.k.then hk (fun j hj e => by omega), h.o⟩
theorem put3_self (Y : World) (c : Nat) (v : Vl) : Keeps (· = c) Y (put3 Y c v) := (((Keeps.refl (fun k => k = c) Y).set c 0 _ (fun _ => rfl)).set c 1 _ (fun _ => rfl)).set c 2 _ (fun _ => rfl)
section
variable {w0 : World} {p : Mp} {fv : Value} {mn : Int} {s : St} {W : World}
set_option maxRecDepth 20000 in
set_option maxHeartbeats 2000000 in
theorem newTable_no (h : Mc w0 p fv mn s W) (h2 : s.tb.length = 200) : Calls Tryz.prog 98 #[.pointer (some ⟨p.B, 0, none⟩)] W fun e W' => e = .panicked (pan (flr 1)) ∧ Below W.heap.size W W' := by
  obtain ⟨_, _, _, c3, _⟩ := h.cells
  have hB := h.lt _ own_B
  rw [h2] at c3
  clear h2
  go_enter Tryz.func98, Tryz.ntmps98
  go_wp2_with (go_at_call 97; refine (refuse_no 1 _ rfl).mono ?_; rintro e w' ⟨rfl, rfl⟩)
  exact ⟨rfl, rfl, ext_alloc (Below.refl _ _) _⟩
set_option maxRecDepth 20000 in
set_option maxHeartbeats 2000000 in
theorem newTable_ok (h : Mc w0 p fv mn s W) {nt : Nat} (hnt : s.tb.length = nt) (h2 : nt < 200) : Calls Tryz.prog 98 #[.pointer (some ⟨p.B, 0, none⟩)] W fun e W' => e = .returned (tbV nt).v ∧ ∃ p', p'.B = p.B ∧ p'.ap = p.ap ∧ p'.fw = p.fw ∧ p'.F = p.F ∧ Mc w0 p' fv mn { s with tb := s.tb ++ [⟨[], []⟩] } W' ∧ MK p.own W p'.own W' := by
  have hb := ext_alloc (Below.refl W.heap.size W) (.cells #[.int .i64 0, .int .i64 0, .string ⟨#[]⟩] 30)
  have gN : (W.alloc (.cells #[.int .i64 0, .int .i64 0, .string ⟨#[]⟩] 30)).heap[W.heap.size]? = some (bx nilV) := heap_new _ _
  obtain ⟨V, hV⟩ : ∃ V, W.alloc (.cells #[.int .i64 0, .int .i64 0, .string ⟨#[]⟩] 30) = V := ⟨_, rfl⟩
  rw [hV] at hb gN
  have h' := h.on hb
  have hltW := h.lt
  obtain ⟨_, _, _, c3, _⟩ := h'.cells
  have hz : W.heap.size < V.heap.size := block_lt gN
  have hb2 := ext_alloc (Below.refl V.heap.size V) (.cells #[.slice none 0 0, .slice none 0 0] 57)
  have gQ : (V.alloc (.cells #[.slice none 0 0, .slice none 0 0] 57)).heap[V.heap.size]? = some (.cells #[.slice none 0 0, .slice none 0 0] 57) := heap_new _ _
  obtain ⟨Q, hQ⟩ : ∃ Q, V.heap.size = Q := ⟨_, rfl⟩
  obtain ⟨U, hU⟩ : ∃ U, V.alloc (.cells #[.slice none 0 0, .slice none 0 0] 57) = U := ⟨_, rfl⟩
  rw [hU] at hb2 gQ
  rw [hQ] at gQ
  have hu := h'.on hb2
  obtain ⟨i0, hi0, hz0, hz1, hz2⟩ := info_parts info57
  have hlt := hu.lt
  have d3 : U.cell? ⟨p.B, 3, none⟩ = some (.slice (some ⟨p.T, 0, none⟩) s.tb.length p.tc) := hu.cells.2.2.2.1
  have hown := hu.to.owns (base := w0.heap.size) (hu.lo _ own_T)
  have hnews : ∀ j x, [Value.slice none 0 0, Value.slice none 0 0][j]? = some x → U.cell? ((⟨Q, 0, none⟩ : Addr).add j) = some x := fun j x hx => by
    match j, hx with
    | 0, hx => cases hx; simpa [Addr.add] using cell_block (i := 0) gQ rfl
    | 1, hx => cases hx; simpa [Addr.add] using cell_block (i := 1) gQ rfl
    | j + 2, hx => simp at hx
  have hone : ∀ x ∈ [Value.slice none 0 0, Value.slice none 0 0], x.oneCell' = true := fun x hx => by simp at hx; subst hx; rfl
  have h63 : s.tb.length + 1 ≤ maxLen := by unfold maxLen; omega
  have hby : (s.tb.length + 1) * 48 ≤ 140737488355328 := by omega
  have hsz := hu.bl.size
  have ap := apart_of h.nd
  have hne : ¬ W.heap.size = p.B := fun e => by have := hltW _ own_B; omega
  have hneT : some p.B ≠ some p.T := fun e => ap.bt (Option.some.inj e)
  rw [hnt] at c3 d3 hown h63 hby
  have hdec : ((nt : Int) == 200) = false := by simp; omega
  have hx : U.heap[p.B]? = _ := hu.box
  have hgU : U.heap[W.heap.size]? = some (bx nilV) := block_below hb2 gN
  have hWT : some W.heap.size ≠ some p.T := fun e => by have := hltW _ own_T; have := Option.some.inj e; omega
  replace hnt : Hid _ := hnt
  go_enter Tryz.func98, Tryz.ntmps98
  go_wp2_with (first | (go_at_call 97; refine (refuse_ok 1 _).mono ?_; rintro e w' ⟨rfl, rfl⟩) | (at_builtin; refine wpList_append_lies _ (by rfl) _ _ _ (by rfl) w0.heap.size 57 i0 _ 2 48 Tryz.underlying26 hi0 hz0 hz1 hz2 rfl (by omega) (.slice (some ⟨p.T, 0, none⟩) nt p.tc) nt _ (by rfl) hown ⟨Q, 0, none⟩ 1 1 [Value.slice none 0 0, Value.slice none 0 0] (by rfl) (by rfl) hnews hone (by omega) h63 hby hsz _ rfl ?_; intro g3 cap3 w3 hown3 hgrow hat hlt3; have p1 := (hgrow.block _ (hlt _ own_B) hneT).trans hx; have d3 : w3.cell? ⟨p.B, 3, none⟩ = some (.slice (some ⟨p.T, 0, none⟩) s.tb.length p.tc) := cell_block p1 rfl; have f3 : w3.frozen? ⟨p.B, 3, none⟩ = false := frozen_block p1; have g1 := (hgrow.block _ (block_lt hgU) hWT).trans hgU; obtain ⟨c0, c1, c2, f0, f1, f2⟩ := in3 g1))
  have hm := (h.more hb (c := W.heap.size) (Nat.le_refl _) hz).on hb2
  rw [← hnt.out] at hown3 hat
  have hat' : p.T = g3 ∨ g3 = U.heap.size := by
    rcases hat with e | e
    · exact .inl (Option.some.inj e)
    · exact .inr e
  obtain ⟨p', e1, e2, e3, e4, hM, hK⟩ := hm.pushT hown3 hgrow hat'
  have hc : W.heap.size ∈ p'.ap := by rw [e2]; simp
  have hM2 := (hM.wrote hc h.bl.size (put3_self _ W.heap.size (tbV nt))).less e2
  have hK2 : MK p.own W p'.own _ := ((MK.below (ext_trans hb hb2)).trans hK).scratch (put3_self _ W.heap.size (tbV nt)) (Nat.le_refl _)
  have ek : tbV nt = ⟨4, nt, E0, by decide, WalkArith.wf_i64 (by omega), by decide⟩ := by unfold tbV; rw [dif_pos (by omega)]
  have gg : (w3.setCell ⟨p.B, 3, none⟩ (.slice (some ⟨g3, 0, none⟩) (s.tb.length + 1) cap3)).heap[W.heap.size]? = some (bx nilV) := (set1_other _ _ (fun e => by have := hltW _ own_B; omega)).trans g1
  have gr := put3_same (tbV nt) gg
  rw [hnt.out] at gr hM2 hK2
  rw [ek] at gr hM2 hK2 ⊢
  exact bodyPost_ret (res98 (B := W.heap.size) rfl gr) rfl ⟨rfl, { p' with ap := p.ap }, e1, rfl, e3, e4, hM2, hK2⟩
end
end Go.Proofs.YthdhgfpidhbdiaaGreatDoor
namespace Go.Proofs.YthdhgfpidhbdiaaGreatDoor
open Go.RowKit
open Go

set_option linter.unusedSectionVars false
variable [DecidableEq Vl]

theorem flat_rep (r j : Nat) (hj : j < r * 3) : (flat (List.replicate r nilV))[j]? = #[Value.int .i64 0, Value.int .i64 0, Value.string ⟨#[]⟩][j % 3]? := by
  induction r generalizing j with
  | zero => omega
  | succ r ih =>
    have e : flat (List.replicate (r + 1) nilV) = [Value.int .i64 0, Value.int .i64 0, Value.string ⟨#[]⟩] ++ flat (List.replicate r nilV) := by simp [flat, List.replicate_succ, nilV]
    rw [e]
    match j, hj with
    | 0, _ => rfl
    | 1, _ => rfl
    | 2, _ => rfl
    | j + 3, hj =>
      rw [List.getElem?_append_right (by simp)]
      simp only [List.length_cons, List.length_nil, Nat.zero_add, Nat.reduceAdd, Nat.add_sub_cancel]
      rw [ih j (by omega), Nat.add_mod_right]
theorem made_regs (r : Nat) (hr : r ≤ 250) : ∃ mc : Array Value, (∀ u : World, (Instr.makeSlice 48 (.int .i64 (r : Nat)) (.int .i64 (r : Nat))).run Tryz.prog u = .ok (.slice (some ⟨u.heap.size, 0, none⟩) r r) (u.alloc (.cells mc 30))) ∧ mc.size = r * 3 ∧ mc.toList = flat (List.replicate r nilV) := by
  obtain ⟨i0, hi0, hz0, hz1, hz2⟩ := info_parts info26
  refine ⟨madeCells #[.int .i64 0, .int .i64 0, .string ⟨#[]⟩] (r * 3), fun u => ?_, size_madeCells _ _, ?_⟩
  · have := run_makeSlice (P := Tryz.prog) (w := u) 48 30 i0 _ Tryz.underlying48 hi0 hz0 .i64 .i64 (r : Nat) (r : Nat) (by omega) (by omega) (by rw [hz1]; omega) (by rw [hz2]; omega) (by omega)
    rw [hz1] at this
    simp only [Int.toNat_natCast] at this
    exact this
  · have hl : (madeCells #[.int .i64 0, .int .i64 0, .string ⟨#[]⟩] (r * 3)).toList.length = r * 3 := by rw [Array.length_toList]; exact size_madeCells _ _
    have hl2 : (flat (List.replicate r nilV)).length = r * 3 := by rw [flat_length, List.length_replicate]
    apply List.ext_getElem?
    intro j
    by_cases hj : j < r * 3
    · rw [flat_rep r j hj]
      have h3 : j % 3 < 3 := Nat.mod_lt _ (by omega)
      have h4 : j % 3 = 0 ∨ j % 3 = 1 ∨ j % 3 = 2 := by omega
      simp only [madeCells, Array.toList_map, Array.toList_range, List.getElem?_map, List.getElem?_range hj, Option.map_some]
      rcases h4 with h4 | h4 | h4 <;> simp [h4]
    · rw [List.getElem?_eq_none (by omega), List.getElem?_eq_none (by omega)]
theorem res25 {tm : Array Value} {W : World} {B : Nat} {a b c d : Value} (h : tm[4]?.getD undef = .pointer (some ⟨B, 0, none⟩)) (hx : W.heap[B]? = some (.cells #[a, b, c, d] 50)) : (results Tryz.f25 tm).run Tryz.prog W = .ok (.agg #[a, b, c, d]) W := by
  have d0 : W.cell? ⟨B, 0, none⟩ = some a := cell_block hx rfl
  have d1 : W.cell? ⟨B, 1, none⟩ = some b := cell_block hx rfl
  have d2 : W.cell? ⟨B, 2, none⟩ = some c := cell_block hx rfl
  have d3 : W.cell? ⟨B, 3, none⟩ = some d := cell_block hx rfl
  simp [results, Tryz.results25, go_sem, h, d0, d1, d2, d3]
set_option maxRecDepth 20000 in
set_option maxHeartbeats 2000000 in
theorem frame_cells (B b off nf cf n r : Nat) (W : World) (c0 : W.cell? ⟨B, 0, none⟩ = some (.slice (some ⟨b, off, none⟩) nf cf)) (hn : n < nf) (d1 : W.cell? ⟨b, off + n * 4 + 1, none⟩ = some (.int .i64 (r : Nat))) (hr : r ≤ 250) :
    Calls Tryz.prog 25 #[.pointer (some ⟨B, 0, none⟩), .int .i64 (n : Nat)] W fun e W' => ∃ g, e = .returned (.agg #[.int .i64 (n : Nat), .int .i64 0, .int .i64 0, .slice (some ⟨g, 0, none⟩) r r]) ∧ OwnR W' g 30 3 r r (flat (List.replicate r nilV)) ∧ W.heap.size ≤ g ∧ Below W.heap.size W W' := by
  have hB := World.block_lt_of_cell? _ _ c0
  have hb := World.block_lt_of_cell? _ _ d1
  simp only at hB hb
  obtain ⟨mc, hmk, hms, hml⟩ := made_regs r hr
  go_enter Tryz.func25, Tryz.ntmps25
  go_wp2
  refine bodyPost_ret (res25 (B := W.heap.size) rfl (block_alloc _ (heap_new _ _))) rfl ⟨W.heap.size + 1, rfl, ⟨by rw [flat_length, List.length_replicate], mc, ?_, Nat.le_refl _, by unfold maxLen; omega, hms, ?_⟩, by omega, ext_alloc (ext_alloc (Below.refl _ _) _) _⟩
  · have := heap_new (W.alloc (.cells #[.int .i64 (n : Nat), .int .i64 0, .int .i64 0, .slice (some ⟨W.heap.size + 1, 0, none⟩) r r] 50)) (.cells mc 30)
    simpa using this
  · rw [← hml, List.take_of_length_le (by rw [Array.length_toList]; omega)]
end Go.Proofs.YthdhgfpidhbdiaaGreatDoor
namespace Go.Proofs.YthdhgfpidhbdiaaGreatDoor
open Go.RowKit
open Go

set_option linter.unusedSectionVars false
variable [DecidableEq Vl]

set_option maxHeartbeats 400000 in
theorem clone_any (t : ByteArray) (W : World) (ht : t.size ≤ 300) : Calls Tryz.prog 74 #[.string t] W fun e W' => e = .returned (.string t) ∧ Below W.heap.size W W' := by
  have hc := fun w => Tryz.stringslite_Clone t w (by omega)
  go_enter Tryz.func74, Tryz.ntmps74
  go_wp2_with (go_at_call 95; refine (hc _).mono ?_; rintro e w2 ⟨rfl, hb2⟩)
  go_ret
  exact ⟨rfl, hb2⟩
theorem res70 {tm : Array Value} {W : World} {B : Nat} {x : Vl} (h : tm[2]?.getD undef = .pointer (some ⟨B, 0, none⟩)) (hx : W.heap[B]? = some (bx x)) : (results Tryz.f70 tm).run Tryz.prog W = .ok x.v W := by
  obtain ⟨c0, c1, c2, _, _, _⟩ := in3 hx
  simp [results, Tryz.results70, go_sem, h, c0, c1, c2]
theorem new2' (W : World) (a b : Obj) : ((W.alloc a).alloc b).heap[W.heap.size + 1]? = some b := by
  have := heap_new (W.alloc a) b
  simpa using this
set_option maxRecDepth 20000 in
set_option maxHeartbeats 2000000 in
theorem freshV_any (v : Vl) (W : World) (hv : v.s.size ≤ 300) : Calls Tryz.prog 70 #[v.v] W fun e W' => e = .returned v.v ∧ Below W.heap.size W W' := by
  have hc := clone_any v.s
  have E0 := ext_alloc (ext_alloc (Below.refl W.heap.size W) (bx v)) (bx nilV)
  have g0 : ((W.alloc (bx v)).alloc (bx nilV)).heap[W.heap.size]? = some (bx v) := block_alloc _ (heap_new _ _)
  have g1 := new2' W (bx v) (bx nilV)
  go_enter Tryz.func70, Tryz.ntmps70
  go_wp2_with (go_at_call 74; refine (hc _ hv).mono ?_; rintro e w2 ⟨rfl, hb2⟩; obtain ⟨a0, a1, a2, f0, f1, f2⟩ := in3 (block_below hb2 g0); obtain ⟨b0, b1, b2, z0, z1, z2⟩ := in3 (block_below hb2 g1); refine Hid.out ?_)
  refine Lib.hid ?_
  have hz := block_lt (block_below hb2 g1)
  have e1 := set_block (i := 2) (.string v.s) (block_below hb2 g0)
  have e2 : (w2.setCell ⟨W.heap.size, 2, none⟩ (.string v.s)).heap[W.heap.size + 1]? = some (bx nilV) := (set1_other _ _ (by omega)).trans (block_below hb2 g1)
  have E2 : Below W.heap.size W (w2.setCell ⟨W.heap.size, 2, none⟩ (.string v.s)) := (ext_trans E0 hb2).setCell (p := ⟨W.heap.size, 2, none⟩) (Nat.le_refl _) _
  go_wp2
  refine bodyPost_ret (res70 (B := W.heap.size + 1) (x := v) rfl ?_) rfl ⟨rfl, ?_⟩
  · exact put3_same v e2
  · exact put3_below v E2 (by omega)
theorem made_row (T : TypeId) (e : TypeId) (z : Value) (sz by' n : Nat) (hu : Tryz.prog.underlying T = some (.slice e)) (hi : (Tryz.prog.info? e).map (fun i => (i.zero, i.size, i.bytes)) = some (some z, sz, by')) (hn : n ≤ 100000) (hsz : sz ≤ 100) (hby : by' ≤ 1000) : ∃ mc : Array Value, (∀ u : World, (Instr.makeSlice T (.int .i64 0) (.int .i64 (n : Nat))).run Tryz.prog u = .ok (.slice (some ⟨u.heap.size, 0, none⟩) 0 n) (u.alloc (.cells mc e))) ∧ mc.size = n * sz := by
  obtain ⟨i0, hi0, hz0, hz1, hz2⟩ := info_parts hi
  refine ⟨madeCells z.cells (n * sz), fun u => ?_, size_madeCells _ _⟩
  have hm : n * sz ≤ 100000 * 100 := Nat.mul_le_mul hn hsz
  have hm2 : by' * n ≤ 1000 * 100000 := Nat.mul_le_mul hby hn
  have hm3 : (by' : Int) * (n : Int) ≤ 281474976710656 := by
    have h9 : ((by' * n : Nat) : Int) ≤ 281474976710656 := by omega
    rwa [Int.natCast_mul] at h9
  have := run_makeSlice (P := Tryz.prog) (w := u) T e i0 _ hu hi0 hz0 .i64 .i64 0 (n : Nat) (by omega) (by omega) (by rw [hz1]; simp only [Int.toNat_natCast]; omega) (by rw [hz2]; exact hm3) (by omega)
  rw [hz1] at this
  simp only [Int.toNat_natCast, Int.toNat_zero] at this
  exact this
theorem OwnR.made {W : World} {mc : Array Value} {e : TypeId} {n sz : Nat} (hs : mc.size = n * sz) (hn : n ≤ 100000) : OwnR (W.alloc (.cells mc e)) W.heap.size e sz 0 n [] :=
  ⟨by simp, mc, heap_new _ _, Nat.zero_le _, by unfold maxLen; omega, hs, by simp⟩
set_option maxRecDepth 20000 in
set_option maxHeartbeats 4000000 in
theorem eachV_any (sv : Value) (xs : List Vl) (W : World) (hr : Row W.heap.size W sv xs) (hl : xs.length ≤ 1000) (hs : ∀ x ∈ xs, x.s.size ≤ 300) :
    Calls Tryz.prog 69 #[sv, .func (.func 70) #[] #[]] W fun e W' => ∃ g cap, e = .returned (.slice (some ⟨g, 0, none⟩) xs.length cap) ∧ OwnR W' g 30 3 xs.length cap (flat xs) ∧ W.heap.size ≤ g ∧ Below W.heap.size W W' := by
  obtain ⟨a, cp, rfl, _, hx⟩ := hr
  obtain ⟨n, hn⟩ : ∃ n, xs.length = n := ⟨_, rfl⟩
  rw [hn] at hl ⊢
  obtain ⟨mc, hmk, hms⟩ := made_row 48 30 _ 3 32 n Tryz.underlying48 info26 (by omega) (by omega) (by omega)
  obtain ⟨i0, hi0, hz0, hz1, hz2⟩ := info_parts info26
  replace hn : Hid _ := hn
  replace hx : Hid _ := hx
  replace hs : Hid _ := hs
  go_enter Tryz.func69, Tryz.ntmps69
  go_wp2
  go_loopw [5, 13] (fun t i wr => ∃ k g cap : Nat, k ≤ n ∧ i = .int .i64 (k : Nat) ∧ t = .slice (some ⟨g, 0, none⟩) k cap ∧ Hid (OwnR wr g 30 3 k cap (flat (xs.take k))) ∧ W.heap.size ≤ g ∧ Below W.heap.size W wr) (fun _ i _ => n - (intOf i).toNat)
  case atStart => exact ⟨0, W.heap.size, n, Nat.zero_le _, rfl, rfl, OwnR.made hms (by omega), Nat.le_refl _, ext_alloc (Below.refl _ _) _⟩
  case round =>
    obtain ⟨k, g, cap, hk, rfl, rfl, hO, hg, hbw⟩ := hrel
    by_cases hlt : k < n
    · obtain ⟨x, hxk⟩ : ∃ x, xs[k]? = some x := ⟨xs[k]'(by rw [hn.out]; exact hlt), List.getElem?_eq_getElem _⟩
      obtain ⟨b, off, rfl, hb, hc⟩ := hx.out (fun e => by rw [e] at hxk; simp at hxk)
      obtain ⟨c0, c1, c2⟩ := (hc k x hxk).below hbw hb
      have hxs := hs.out x (List.mem_of_getElem? hxk)
      have hbwr : b < wr.heap.size := Nat.lt_of_lt_of_le hb hbw.size
      have hfv := freshV_any x (wr.alloc (.cells #[.int .i64 x.k, .int .i64 x.n, .string x.s] 30)) hxs
      have hgl : g < wr.heap.size := hO.out.lt
      have h63 : k + 1 ≤ maxLen := by unfold maxLen; omega
      have hby : (k + 1) * 32 ≤ 140737488355328 := by omega
      go_wp2_with (first | (go_at_call 70; refine hfv.mono ?_; rintro e w2 ⟨rfl, hb2⟩; have E2 := ext_trans (ext_alloc (Below.refl wr.heap.size wr) (.cells #[.int .i64 x.k, .int .i64 x.n, .string x.s] 30)) hb2; have E3 := ext_alloc E2 (.cells #[.int .i64 x.k, .int .i64 x.n, .string x.s] 30); have hown := (hO.out.same (E3.block g hgl)).owns (base := W.heap.size) hg; have hnews := news (W := w2.alloc (.cells #[.int .i64 x.k, .int .i64 x.n, .string x.s] 30)) (heap_new w2 _); have hsz : W.heap.size ≤ (w2.alloc (.cells #[.int .i64 x.k, .int .i64 x.n, .string x.s] 30)).heap.size := Nat.le_trans hbw.size E3.size) | (at_builtin; refine wpList_append_lies _ (by rfl) _ _ _ (by rfl) W.heap.size 30 i0 _ 3 32 Tryz.underlying48 hi0 hz0 hz1 hz2 rfl (by omega) (.slice (some ⟨g, 0, none⟩) k cap) k _ (by rfl) hown ⟨w2.heap.size, 0, none⟩ 1 1 (trio x) (by rfl) (by rfl) hnews (by simp [Value.oneCell']) (by omega) h63 hby hsz _ rfl ?_; intro g3 cap3 w3 hown3 hgrow hat hlt3))
      go_roundw
      case measure => simp [intOf]; omega
      case rel =>
        have hO3 := OwnR.of hown3
        refine ⟨k + 1, g3, cap3, by omega, by go_num, rfl, ?_, hO3.2, ?_⟩
        · rw [take_snoc hxk, flat_snoc]
          exact hO3.1
        · have hk3 := Keeps.grown hgrow
          exact (((Keeps.of_below (S := fun k => some k = some g) hbw).trans ((Keeps.of_below (S := fun k => some k = some g) E3).mono (fun _ _ h => h))).trans hk3).below (Nat.le_refl _) (fun k hk e => by have := Option.some.inj e; omega)
    · obtain rfl : k = n := by omega
      go_wp2
      go_ret
      refine ⟨g, cap, rfl, ?_, hg, hbw⟩
      have := hO.out
      rw [List.take_of_length_le (by rw [hn.out]; exact Nat.le_refl _)] at this
      exact this
end Go.Proofs.YthdhgfpidhbdiaaGreatDoor
