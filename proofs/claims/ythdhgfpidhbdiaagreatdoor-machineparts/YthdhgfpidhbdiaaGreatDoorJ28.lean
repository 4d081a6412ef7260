/- A value's text is told. -/
import Derived.Test.YthdhgfpidhbdiaaGreatDoorJ26
namespace Go.Proofs.YthdhgfpidhbdiaaGreatDoor
open Go.RowKit
open Go

set_option linter.unusedSectionVars false
variable [DecidableEq Vl]

section
variable {w0 : World} {p : Mp} {fv : Value} {mn : Int} {s : St} {W : World}
set_option maxRecDepth 20000 in
set_option maxHeartbeats 4000000 in
theorem tell_any (h : Mc w0 p fv mn s W) (v : Vl) {nu : Nat} (hnu : s.out.length = nu) (h2 : nu ≤ 60000) (ht : PTab W) :
    Calls Tryz.prog 103 #[.pointer (some ⟨p.B, 0, none⟩), v.v] W fun e W' => e = .returned (.tuple #[]) ∧ ∃ p', p'.B = p.B ∧ p'.ap = p.ap ∧ p'.fw = p.fw ∧ p'.F = p.F ∧ Mc w0 p' fv mn { s with out := s.out ++ [textB v.k v.n v.s] } W' ∧ MK p.own W p'.own W' := by
  have hn64 := wf64 v.wn
  obtain ⟨tx, htx⟩ : ∃ tx, textB v.k v.n v.s = tx := ⟨_, rfl⟩
  have hb1 := ext_alloc (Below.refl W.heap.size W) (.cells #[.int .i64 v.k, .int .i64 v.n, .string v.s] 30)
  have g1 : (W.alloc (.cells #[.int .i64 v.k, .int .i64 v.n, .string v.s] 30)).heap[W.heap.size]? = some (bx v) := heap_new _ _
  obtain ⟨w1, hw1⟩ : ∃ w1, W.alloc (.cells #[.int .i64 v.k, .int .i64 v.n, .string v.s] 30) = w1 := ⟨_, rfl⟩
  rw [hw1] at hb1 g1
  have htx' : ∀ w2, Below W.heap.size W w2 → Calls Tryz.prog 121 #[v.v] w2 fun e w' => e = .returned (.string tx) ∧ Below w2.heap.size w2 w' := fun w2 hb => by
    have := text_any v.k v.n v.s w2 hn64.1 hn64.2 (ht.on hb)
    rw [htx] at this
    exact this
  rw [htx]
  have h1 := h.on hb1
  have ap := apart_of h.nd
  have hltW := h.lt
  obtain ⟨_, _, _, _, c4, _⟩ := h1.cells
  rw [hnu] at c4
  obtain ⟨p0, p1, p2, _, _, _⟩ := in3 g1
  obtain ⟨i0, hi0, hz0, hz1, hz2⟩ := info_parts info9
  have hneU : some p.B ≠ some p.U := fun e => ap.bu (Option.some.inj e)
  have h63 : nu + 1 ≤ maxLen := by unfold maxLen; omega
  have hby : (nu + 1) * 16 ≤ 140737488355328 := by omega
  have hZ : ∀ u : World, (u.alloc (.cells #[.string tx] 9)).heap[u.heap.size]? = some (.cells #[.string tx] 9) := fun u => heap_new _ _
  have hnews : ∀ (u : World) (j : Nat) (x : Value), [Value.string tx][j]? = some x → (u.alloc (.cells #[.string tx] 9)).cell? ((⟨u.heap.size, 0, none⟩ : Addr).add j) = some x := fun u j x hx => by
    match j, hx with
    | 0, hx => cases hx; exact cell_block (i := 0) (hZ u) rfl
    | j + 1, hx => simp at hx
  have hM : ∀ u, Below W.heap.size W u → Mc w0 p fv mn s u := fun u hb => h.on hb
  have hone : ∀ x ∈ [Value.string tx], x.oneCell' = true := fun x hx => by simp at hx; subst hx; rfl
  replace hnu : Hid _ := hnu
  replace htx' : Hid _ := htx'
  replace hM : Hid _ := hM
  clear htx h1 hZ
  go_enter Tryz.func103, Tryz.ntmps103
  go_wp2
  go_region_law (first
    | (refine step_append_lies _ (by rfl) _ _ _ (by rfl) w0.heap.size 9 i0 _ 1 16 Tryz.underlying27 hi0 hz0 hz1 hz2 rfl (by omega) (.slice (some ⟨p.U, 0, none⟩) nu p.uc) nu _ (by rfl) hown ⟨w2.heap.size, 0, none⟩ 1 1 [Value.string tx] (by rfl) (by rfl) (hnews w2) hone (by omega) h63 hby hsz _ rfl ?_; intro g3 cap3 w3 hown3 hgrow hat hlt3; have p1 := (hgrow.block _ (hu.lt _ own_B) hneU).trans hu.box; have d4 : w3.cell? ⟨p.B, 4, none⟩ = some (.slice (some ⟨p.U, 0, none⟩) s.out.length p.uc) := cell_block p1 rfl; have f4 : w3.frozen? ⟨p.B, 4, none⟩ = false := frozen_block p1)
    | (go_simp; go_at_call 121; refine (htx'.out _ (ext_drew hb1)).mono ?_; rintro e w2 ⟨rfl, hb2⟩; have E2 := ext_trans (ext_drew hb1) hb2; have hu0 := hM.out w2 E2; have d4 := hu0.cells.2.2.2.2.1; rw [hnu.out] at d4; have hu := hM.out (w2.alloc (.cells #[.string tx] 9)) (ext_alloc E2 _); have d5 := hu.cells.2.2.2.2.1; rw [hnu.out] at d5; have hown := hu.uo.owns (base := w0.heap.size) (hu.lo _ own_U); rw [hnu.out] at hown; have hsz := hu.bl.size))
  all_goals
    have hK0 : MK p.own W p.own (w2.alloc (.cells #[.string tx] 9)) := MK.below (ext_alloc E2 _)
    have hat' : p.U = g3 ∨ g3 = (w2.alloc (.cells #[.string tx] 9)).heap.size := by
      rcases hat with e | e
      · exact .inl (Option.some.inj e)
      · exact .inr e
    rw [← hnu.out] at hown3 ⊢
    obtain ⟨q', e1, e2, e3, e4, hM', hK⟩ := hu.pushU hown3 hgrow hat'
    go_end0
    exact ⟨rfl, q', e1, e2, e3, e4, hM', hK0.trans hK⟩
end
end Go.Proofs.YthdhgfpidhbdiaaGreatDoor
