/- A call is begun, ag far ag memory goes. -/
import Derived.Test.YthpgbienakcbeaaGreatDoorS34
import Derived.Shelf.Spec.SlicesInsert
namespace Go.Proofs.YthpgbienakcbeaaGreatDoor
open Go.RowKit Go
set_option maxRecDepth 100000
set_option maxHeartbeats 8000000
set_option linter.all false
variable {n g : Nat} {ag : List Vl} {W : World}
section
variable [DecidableEq Vl]
theorem b3f {P : Program} (w : World) (dT sT ty elem : TypeId) (g o dLen dCap : Nat) (a : Addr) (sLen sCap n : Nat) (cur : Array Value) (t : TypeId) (cs : List Value) (hu : P.underlying dT = some (.slice elem)) (hs : (P.info? elem).map (·.size) = some 3) (hg : w.heap[g]? = some (.cells cur t (0, 0))) (hm : Nat.min sLen dLen = n) (hn : cs.length = n * 3) (hsrc : ∀ j v, cs[j]? = some v → w.cell? (a.add j) = some v) (hfit : o + cs.length ≤ cur.size) (h1 : ∀ v ∈ cs, v.oneCell' = true) :
  (Builtin.copy_ #[dT, sT] ty #[.slice (some ⟨g, o, none⟩) dLen dCap, .slice (some a) sLen sCap]).run P w =
   .ok (goInt n) (w.setRow g (cur.toList.take o ++ cs ++ cur.toList.drop (o + cs.length)).toArray) := by
 have hl := run_loadCells_list (P := P) w a cs hsrc
 have hst := run_storeCells_at P g o t cs 0 cur w hg (by simpa using hfit) h1
 rw [hn] at hl
 cases hq : P.info? elem with
 | none => simp [hq] at hs
 | some i =>
  have hi : i.size = 3 := by simpa [hq] using hs
  simp [Builtin.copy_, run_underlying hu, Builtin.lenOf, Builtin.firstCells, sizeOf, typeInfo, hq, hi, hm, hl, hst]
theorem c7h : (Tryz.prog.info? 30).map (·.size) = some 3 := by kernel_rfl
theorem c5s (pt d : Value) (g off m cp : Nat) (k : Int) (W : World) (hk : W.cell? ⟨g, off, none⟩ = some (.int .i64 k)) (h5 : (k != 5) = true) (hm : 0 < m) :
  Calls Tryz.prog 78 #[pt, .slice (some ⟨g, off, none⟩) m cp, d] W fun e W' => e = .panicked (pan (flr 3)) ∧ W' = W := by
 go_enter Tryz.func78, Tryz.ntmps78
 go_wp2_with (go_at_call 97; refine (a8d 3 _ rfl).mono ?_; rintro e w' ⟨rfl, rfl⟩)
 exact ⟨rfl, rfl, rfl⟩
theorem c1h (B F fc : Nat) (d : Value) (g off m cp : Nat) (W : World) (hk : W.cell? ⟨g, off, none⟩ = some (.int .i64 5)) (hm : 0 < m) (c2 : W.cell? ⟨B, 2, none⟩ = some (.slice (some ⟨F, 0, none⟩) 40 fc)) :
  Calls Tryz.prog 78 #[.pointer (some ⟨B, 0, none⟩), .slice (some ⟨g, off, none⟩) m cp, d] W fun e W' => e = .panicked (pan (flr 1)) ∧ W' = W := by
 go_enter Tryz.func78, Tryz.ntmps78
 go_wp2_with (go_at_call 97; refine (a4t 3 _).mono ?_; rintro e w' ⟨rfl, rfl⟩; refine Hid.out ?_)
 refine Lib.hid ?_
 go_wp2_with (go_at_call 97; refine (a8d 1 _ rfl).mono ?_; rintro e w' ⟨rfl, rfl⟩)
 exact ⟨rfl, rfl, rfl⟩
theorem c1i (xs : List Vl) (n : Nat) : (flat xs).drop (n * 3) = flat (xs.drop n) := by
 induction xs generalizing n with
 | nil => simp [flat]
 | cons x xs ih =>
  cases n with
  | zero => simp
  | succ n =>
   have e : flat (x :: xs) = .int .i64 x.k :: .int .i64 x.n :: .string x.s :: flat xs := by simp [flat]
   rw [e, show (n + 1) * 3 = n * 3 + 1 + 1 + 1 by omega]
   simp only [List.drop_succ_cons]
   exact ih n
theorem b0b {r pr : Nat} {cur : Array Value} (hc : cur.toList = flat (List.replicate r nilV)) (hn : n = min ag.length pr) :
  (cur.toList.take 0 ++ flat (ag.take n) ++ cur.toList.drop (0 + (flat (ag.take n)).length)) = flat (a0x pr r ag) := by
 have hl : (ag.take n).length = n := by rw [List.length_take]; omega
 rw [a1j, hl, hc, Nat.zero_add, c1i, List.drop_replicate]
 have e : ag.take pr = ag.take n := by
  by_cases h : pr ≤ ag.length
  ·rw [show n = pr by omega]
  ·rw [show n = ag.length by omega, List.take_of_length_le (by omega), List.take_of_length_le (Nat.le_refl _)]
 simp only [a0x, Int.toNat_natCast, e, hl, List.take_zero, List.nil_append]
 simp [flat]
theorem b3g {off : Nat} (hn : n ≤ ag.length) (h : ∀ j x, ag[j]? = some x → a1m W g (off + j * 3) x) : ∀ j v, (flat (ag.take n))[j]? = some v → W.cell? ((⟨g, off, none⟩ : Addr).add j) = some v := fun j v hv => by
 have hl : (ag.take n).length = n := by rw [List.length_take]; omega
 have hj := (List.getElem?_eq_some_iff.1 hv).1
 rw [a1j, hl] at hj
 have hj3 : j / 3 < ag.length := by omega
 have ha : ag[j / 3]? = some ag[j / 3] := List.getElem?_eq_getElem hj3
 have hat : (ag.take n)[j / 3]? = some ag[j / 3] := by rw [List.getElem?_take_of_lt (by omega)]; exact ha
 obtain ⟨e0, e1, e2⟩ := c1d hat
 obtain ⟨t0, t1, t2⟩ := h _ _ ha
 have hadd : (⟨g, off, none⟩ : Addr).add j = ⟨g, off + j, none⟩ := by unfold Addr.add; split <;> simp_all
 rw [hadd]
 have h3 : j % 3 = 0 ∨ j % 3 = 1 ∨ j % 3 = 2 := by omega
 rcases h3 with h3 | h3 | h3
 ·rw [show j = j / 3 * 3 by omega] at hv ⊢
  rw [e0] at hv; cases hv
  exact t0
 ·rw [show j = j / 3 * 3 + 1 by omega] at hv ⊢
  rw [e1] at hv; cases hv
  exact t1
 ·rw [show j = j / 3 * 3 + 2 by omega] at hv ⊢
  rw [e2] at hv; cases hv
  exact t2
section
variable {w0 : World} {p : Mp} {fv : Value} {mn : Int} {s : St} {W : World}
theorem Mc.setPC2 (h : Mc w0 p fv mn s W) {l : List Fw} {q : Fw} (e : p.fw = l ++ [q]) (pc : Int) :
  Mc w0 { p with fw := l ++ [{ q with x := { q.x with pc := pc } }] } fv mn { s with fr := l.map Fw.x ++ [{ q.x with pc := pc }] } (W.setCell ⟨p.F, l.length * 4 + 1, none⟩ (.int .i64 pc)) ∧ ({ p with fw := l ++ [{ q with x := { q.x with pc := pc } }] } : Mp).own = p.own := by
 have a := a1f h.nd
 have hlen := h.len.1
 rw [e] at hlen
 simp at hlen
 have hown : ({ p with fw := l ++ [{ q with x := { q.x with pc := pc } }] } : Mp).own = p.own := by simp [Mp.own, e]
 have hk : MK p.own W p.own (W.setCell ⟨p.F, l.length * 4 + 1, none⟩ (.int .i64 pc)) := MK.set a2f
 have hoth : ∀ b, b ≠ p.F → (W.setCell ⟨p.F, l.length * 4 + 1, none⟩ (.int .i64 pc)).heap[b]? = W.heap[b]? := fun b hb => a0f _ _ hb
 have hl := a2q l
 refine ⟨h.re rfl (by rw [hown]; exact hk) ?_ ?_ ?_ (h.to.same (hoth _ a.ft.symm)) (h.uo.same (hoth _ a.fu.symm)) ?_ (by simp) h.ht (fun q hq => .inl hq), hown⟩
 ·exact a1f (by rw [hown]; exact h.nd)
 ·refine (hoth _ a.bf).trans ?_
  show _ = some (mcb fv mn p (l.map Fw.x ++ [{ q.x with pc := pc }]).length _ _ _ _ _ _ _ _)
  rw [h.box]
  simp [hlen]
 ·have := h.fo.set (l.length * 4 + 1) (.int .i64 pc)
  show OwnR _ p.F 50 4 (l.map Fw.x ++ [{ q.x with pc := pc }]).length p.fc (a0p (l ++ [{ q with x := { q.x with pc := pc } }]))
  rw [e, a0u, List.set_append_right _ _ (by omega), show l.length * 4 + 1 - (a0p l).length = 1 by omega] at this
  rw [a0u]
  have e2 : (l.map Fw.x ++ [{ q.x with pc := pc }]).length = s.fr.length := by simp [hlen]
  rw [e2]
  exact this
 ·intro z hz
  rcases List.mem_append.1 hz with hz | hz
  ·exact (h.rg z (by rw [e]; exact List.mem_append_left _ hz)).same (hoth _ (a.gf z (by rw [e]; exact List.mem_append_left _ hz)))
  ·simp only [List.mem_singleton] at hz
   subst hz
   exact (h.rg q (by rw [e]; simp)).same (hoth _ (a.gf q (by rw [e]; simp)))
theorem MK.later {O : List Nat} {V : World} (hb : Below W.heap.size W V) {i : Nat} {v : Value} (hg : g ∈ O) : MK O (W.setCell ⟨g, i, none⟩ v) O (V.setCell ⟨g, i, none⟩ v) := by
 have hs1 : (W.setCell ⟨g, i, none⟩ v).heap.size = W.heap.size := by simp
 have hs2 : (V.setCell ⟨g, i, none⟩ v).heap.size = V.heap.size := by simp
 refine ⟨⟨hb.os, hb.tape, hb.output, by rw [hs1, hs2]; exact hb.size, fun k hk hn => ?_⟩, fun _ h => .inl h⟩
 have hne : k ≠ g := fun e => hn (e ▸ hg)
 rw [a0f _ _ hne, a0f _ _ hne]
 exact hb.block k (by rw [hs1] at hk; exact hk)
end
end
end Go.Proofs.YthpgbienakcbeaaGreatDoor
