/- Plain orders that change more than a register: a table is set, a text is told, a table is made; a constant. -/
import Derived.Test.YthpgbienakcbeaaGreatDoorS33
import Derived.Deep.RegionHeld2
namespace Go.Proofs.YthpgbienakcbeaaGreatDoor
open Go.RowKit Go
set_option maxRecDepth 100000
set_option maxHeartbeats 8000000
set_option linter.all false
variable {i B o : Nat} {v y z va : Vl} {q : Fw} {w0 W W' w : World} {p : Mp} {fv : Value} {mn : Int} {s : St} {e : Ending} {fs : List Fd} {l : List Fw}
section
variable [DecidableEq Vl]
theorem c1d {rs : List Vl} (hi : rs[i]? = some v) : (flat rs)[i * 3]? = some (.int .i64 v.k) ∧ (flat rs)[i * 3 + 1]? = some (.int .i64 v.n) ∧ (flat rs)[i * 3 + 2]? = some (.string v.s) := by
 induction rs generalizing i with
 | nil => simp at hi
 | cons x xs ih =>
  have e : flat (x :: xs) = .int .i64 x.k :: .int .i64 x.n :: .string x.s :: flat xs := by simp [flat]
  rw [e]
  cases i with
  | zero => simp at hi; subst hi; simp
  | succ i =>
   rw [show (i + 1) * 3 = i * 3 + 1 + 1 + 1 by omega]
   simp only [List.getElem?_cons_succ] at hi ⊢
   exact ih hi
section
variable {w0 : World} {p : Mp} {fv : Value} {mn : Int} {s : St} {W : World}
theorem Mc.reg (h : Mc w0 p fv mn s W) (hq : q ∈ p.fw) (hi : q.x.rs[i]? = some v) : a3g W q.g i v := by
 obtain ⟨h0, h1, h2⟩ := c1d hi
 have ho := h.rg q hq
 exact ⟨⟨(ho.cell h0).1, (ho.cell h1).1, (ho.cell h2).1⟩, (ho.cell h0).2, (ho.cell h1).2, (ho.cell h2).2⟩
theorem c9z (h : Mc w0 p fv mn s W) (hq : q ∈ p.fw) (a : Nat) (b c : Int) (hv : q.x.rs[a]? = some v) (hu : s.out.length ≤ 60000) (ht : PTab W) :
  Calls Tryz.prog 80 #[.pointer (some ⟨p.B, 0, none⟩), .slice (some ⟨q.g, 0, none⟩) q.x.rs.length q.c, .agg #[.int .i64 13, .int .i64 (a : Nat), .int .i64 b, .int .i64 c]] W fun e W' => e = .returned (.tuple #[]) ∧ ∃ p', p'.B = p.B ∧ p'.ap = p.ap ∧ p'.fw = p.fw ∧ p'.F = p.F ∧ Mc w0 p' fv mn { s with out := s.out ++ [a3n v.k v.n v.s] } W' ∧ MK p.own W p'.own W' := by
 have hr := h.reg hq hv
 have hla := (List.getElem?_eq_some_iff.1 hv).1
 have hb1 := a0c (Below.refl W.heap.size W) (.cells #[.int .i64 13, .int .i64 (a : Nat), .int .i64 b, .int .i64 c] 82)
 have h1 := h.on hb1
 obtain ⟨⟨a0, a1, a2⟩, _, _, _⟩ := hr
 have hgl := World.block_lt_of_cell? _ _ a0
 simp only at hgl
 have htell := c5l h1 v (nu := s.out.length) rfl hu (ht.on hb1)
 obtain ⟨n, hn⟩ := exq (q.x.rs.length)
 rw [hn] at hla ⊢
 go_enter Tryz.func80, Tryz.ntmps80
 go_wp2_with (go_at_call 103; refine htell.mono ?_; rintro e w2 ⟨rfl, p', e1, e2, e3, e4, hM, hK⟩)
 go_end0
 exact ⟨rfl, p', e1, e2, e3, e4, hM, (MK.below hb1).trans hK⟩
def SQ (w0 : World) (p : Mp) (fv : Value) (mn : Int) (s : St) (W : World) (v y z : Vl) (e : Ending) (W' : World) : Prop :=
 if v.k = 4 then (if (setT (a1a s.tb v).ks (a1a s.tb v).vs y z).2 = 0 then e = .returned (.tuple #[]) ∧ ∃ p', p'.B = p.B ∧ p'.ap = p.ap ∧ p'.fw = p.fw ∧ p'.F = p.F ∧ Mc w0 p' fv mn { s with tb := s.tb.set v.n.toNat ⟨keysOf (setT (a1a s.tb v).ks (a1a s.tb v).vs y z).1, a0q (setT (a1a s.tb v).ks (a1a s.tb v).vs y z).1⟩ } W' ∧ MK p.own W p'.own W'
  else e = .panicked (pan (flr (setT (a1a s.tb v).ks (a1a s.tb v).vs y z).2)) ∧ Below W.heap.size W W')
 else e = .panicked (pan (flr 3)) ∧ Below W.heap.size W W'
theorem SQ.two (h : SQ w0 p fv mn s W v y z e W') : (∃ cc, e = .panicked (pan (flr cc)) ∧ SQ w0 p fv mn s W v y z e W') ∨ (e = .returned (.tuple #[]) ∧ SQ w0 p fv mn s W v y z e W' ∧ ∃ p', p'.fw = p.fw ∧ (∃ s', Mc w0 p' fv mn s' W') ∧ MK p.own W p'.own W') := by
 have h' := h
 unfold SQ at h
 split at h
 ·split at h
  ·obtain ⟨e1, p', _, _, e2, _, e3, e4⟩ := h
   exact .inr ⟨e1, h', p', e2, ⟨_, e3⟩, e4⟩
  ·exact .inl ⟨_, h.1, h'⟩
 ·exact .inl ⟨_, h.1, h'⟩
theorem SQ.from {V : World} (hb : Below W.heap.size W V) (h : SQ w0 p fv mn s V v y z e W') : SQ w0 p fv mn s W v y z e W' := by
 unfold SQ at h ⊢
 split at h
 ·rename_i h4
  rw [if_pos h4]
  split at h
  ·rename_i h0
   rw [if_pos h0]
   obtain ⟨e1, p', a1, a2, a3, a4, a5, a6⟩ := h
   exact ⟨e1, p', a1, a2, a3, a4, a5, (MK.below hb).trans a6⟩
  ·rename_i h0
   rw [if_neg h0]
   exact ⟨h.1, a0b hb h.2⟩
 ·rename_i h4
  rw [if_neg h4]
  exact ⟨h.1, a0b hb h.2⟩
theorem d2k (h : Mc w0 p fv mn s W) (hg : Good fs s) (hq : q ∈ p.fw) (a b c : Nat) {vb vc : Vl} (hva : q.x.rs[a]? = some va) (hvb : q.x.rs[b]? = some vb) (hvc : q.x.rs[c]? = some vc) (hV : VG s.tb.length fs.length va) :
  Calls Tryz.prog 80 #[.pointer (some ⟨p.B, 0, none⟩), .slice (some ⟨q.g, 0, none⟩) q.x.rs.length q.c, .agg #[.int .i64 5, .int .i64 (a : Nat), .int .i64 (b : Nat), .int .i64 (c : Nat)]] W (SQ w0 p fv mn s W va vb vc) := by
 have hla := (List.getElem?_eq_some_iff.1 hva).1
 have hlb := (List.getElem?_eq_some_iff.1 hvb).1
 have hlc := (List.getElem?_eq_some_iff.1 hvc).1
 have hb1 := a0c (Below.refl W.heap.size W) (.cells #[.int .i64 5, .int .i64 (a : Nat), .int .i64 (b : Nat), .int .i64 (c : Nat)] 82)
 have g1 : (W.alloc (.cells #[.int .i64 5, .int .i64 (a : Nat), .int .i64 (b : Nat), .int .i64 (c : Nat)] 82)).heap[W.heap.size]? = some (.cells #[.int .i64 5, .int .i64 (a : Nat), .int .i64 (b : Nat), .int .i64 (c : Nat)] 82) := a0h _ _
 obtain ⟨w1, hw1⟩ := exq (W.alloc (.cells #[.int .i64 5, .int .i64 (a : Nat), .int .i64 (b : Nat), .int .i64 (c : Nat)] 82))
 rw [hw1] at hb1 g1
 have o0 : w1.cell? ⟨W.heap.size, 0, none⟩ = some (.int .i64 5) := a0a g1 rfl
 have o1 : w1.cell? ⟨W.heap.size, 1, none⟩ = some (.int .i64 (a : Nat)) := a0a g1 rfl
 have o2 : w1.cell? ⟨W.heap.size, 2, none⟩ = some (.int .i64 (b : Nat)) := a0a g1 rfl
 have o3 : w1.cell? ⟨W.heap.size, 3, none⟩ = some (.int .i64 (c : Nat)) := a0a g1 rfl
 obtain ⟨⟨a0, a1, a2⟩, _, _, _⟩ := (h.reg hq hva).on hb1
 obtain ⟨⟨b0, b1, b2⟩, _, _, _⟩ := (h.reg hq hvb).on hb1
 obtain ⟨⟨c0, c1, c2⟩, _, _, _⟩ := (h.reg hq hvc).on hb1
 have hset : ∀ w2, Below W.heap.size W w2 → Calls Tryz.prog 100 #[.pointer (some ⟨p.B, 0, none⟩), va.v, vb.v, vc.v] w2 fun e W' => (∃ cc, e = .panicked (pan (flr cc)) ∧ SQ w0 p fv mn s w2 va vb vc e W') ∨ (e = .returned (.tuple #[]) ∧ SQ w0 p fv mn s w2 va vb vc e W' ∧ ∃ p', p'.fw = p.fw ∧ (∃ s', Mc w0 p' fv mn s' W') ∧ MK p.own w2 p'.own W') := fun w2 hb =>
  (c5k (h.on hb) hg va vb vc hV).mono fun e W' k => SQ.two k
 have hO : ∀ w2 w3 : World, ∀ p' : Mp, Below w1.heap.size w1 w2 → p'.fw = p.fw → (∃ s', Mc w0 p' fv mn s' w3) → MK p.own w2 p'.own w3 → w3.cell? ⟨W.heap.size, 1, none⟩ = some (.int .i64 (a : Nat)) ∧ w3.cell? ⟨W.heap.size, 2, none⟩ = some (.int .i64 (b : Nat)) ∧ w3.cell? ⟨W.heap.size, 3, none⟩ = some (.int .i64 (c : Nat)) ∧ a1m w3 q.g (a * 3) va ∧ a1m w3 q.g (b * 3) vb ∧ a1m w3 q.g (c * 3) vc := fun w2 w3 p' hb hf ⟨s', hM⟩ hK => by
  have hn : W.heap.size ∉ p.own := fun e => by have := h.lt _ e; omega
  have hx := (hK.box (a0d hb g1) hn).1
  exact ⟨a0a hx rfl, a0a hx rfl, a0a hx rfl, (hM.reg (by rw [hf]; exact hq) hva).t, (hM.reg (by rw [hf]; exact hq) hvb).t, (hM.reg (by rw [hf]; exact hq) hvc).t⟩
 obtain ⟨n, hn⟩ := exq (q.x.rs.length)
 rw [hn] at hla hlb hlc ⊢
 replace hset : Hid _ := hset
 replace hO : Hid _ := hO
 clear hva hvb hvc hn
 go_enter Tryz.func80, Tryz.ntmps80
 go_wp2
 go_region_held2 (fun u => u.cell? ⟨W.heap.size, 1, none⟩ = some (.int .i64 (a : Nat)) ∧ u.cell? ⟨W.heap.size, 2, none⟩ = some (.int .i64 (b : Nat)) ∧ u.cell? ⟨W.heap.size, 3, none⟩ = some (.int .i64 (c : Nat)) ∧ u.cell? ⟨q.g, a * 3, none⟩ = some (.int .i64 va.k) ∧ u.cell? ⟨q.g, a * 3 + 1, none⟩ = some (.int .i64 va.n) ∧ u.cell? ⟨q.g, a * 3 + 2, none⟩ = some (.string va.s) ∧ u.cell? ⟨q.g, b * 3, none⟩ = some (.int .i64 vb.k) ∧ u.cell? ⟨q.g, b * 3 + 1, none⟩ = some (.int .i64 vb.n) ∧ u.cell? ⟨q.g, b * 3 + 2, none⟩ = some (.string vb.s) ∧ u.cell? ⟨q.g, c * 3, none⟩ = some (.int .i64 vc.k) ∧ u.cell? ⟨q.g, c * 3 + 1, none⟩ = some (.int .i64 vc.n) ∧ u.cell? ⟨q.g, c * 3 + 2, none⟩ = some (.string vc.s)) (go_keep) (first | (go_at_call 100; refine (hset.out _ (a0i hb1)).mono ?_; rintro e w2 (⟨cc, rfl, hs⟩ | ⟨rfl, hs, p', hf, hM, hK⟩); (exact ⟨rfl, SQ.from (a0i hb1) hs⟩); obtain ⟨s0, s1, s2, ⟨t0, t1, t2⟩, ⟨u0, u1, u2⟩, ⟨v0, v1, v2⟩⟩ := hO.out _ w2 p' (a0i (Below.refl _ _)) hf hM hK))
 all_goals
  go_wp2
  go_end0
  exact SQ.from (a0i hb1) hs
theorem b3d (h : Mc w0 p fv mn s W) (h2 : s.tb.length ≤ 200) : Calls Tryz.prog 98 #[.pointer (some ⟨p.B, 0, none⟩)] W fun e W' => (s.tb.length = 200 ∧ e = .panicked (pan (flr 1)) ∧ Below W.heap.size W W') ∨ (¬ s.tb.length = 200 ∧ e = .returned (tbV s.tb.length).v ∧ ∃ p', p'.B = p.B ∧ p'.ap = p.ap ∧ p'.fw = p.fw ∧ p'.F = p.F ∧ Mc w0 p' fv mn { s with tb := s.tb ++ [⟨[], []⟩] } W' ∧ MK p.own W p'.own W') := by
 by_cases e : s.tb.length = 200
 ·exact (b4m h e).mono fun _ _ ⟨a, b⟩ => .inl ⟨e, a, b⟩
 ·exact (b4n h rfl (by omega)).mono fun _ _ ⟨a, b⟩ => .inr ⟨e, a, b⟩
theorem d2l (h : Mc w0 p fv mn s W) (h2 : s.tb.length ≤ 200) (hfw : p.fw = l ++ [q]) (a : Nat) (b c : Int) (hva : q.x.rs[a]? = some va) :
  Calls Tryz.prog 80 #[.pointer (some ⟨p.B, 0, none⟩), .slice (some ⟨q.g, 0, none⟩) q.x.rs.length q.c, .agg #[.int .i64 3, .int .i64 (a : Nat), .int .i64 b, .int .i64 c]] W fun e W' => (s.tb.length = 200 ∧ e = .panicked (pan (flr 1)) ∧ Below W.heap.size W W') ∨ (¬ s.tb.length = 200 ∧ e = .returned (.tuple #[]) ∧ ∃ p' V, p'.B = p.B ∧ p'.ap = p.ap ∧ p'.fw = p.fw ∧ p'.F = p.F ∧ Mc w0 p' fv mn { s with tb := s.tb ++ [⟨[], []⟩] } V ∧ MK p.own W p'.own V ∧ W' = putg V q.g a (tbV s.tb.length)) := by
 have hq : q ∈ p.fw := by rw [hfw]; simp
 have hla := (List.getElem?_eq_some_iff.1 hva).1
 have hb1 := a0c (Below.refl W.heap.size W) (.cells #[.int .i64 3, .int .i64 (a : Nat), .int .i64 b, .int .i64 c] 82)
 have g1 : (W.alloc (.cells #[.int .i64 3, .int .i64 (a : Nat), .int .i64 b, .int .i64 c] 82)).heap[W.heap.size]? = some (.cells #[.int .i64 3, .int .i64 (a : Nat), .int .i64 b, .int .i64 c] 82) := a0h _ _
 obtain ⟨w1, hw1⟩ := exq (W.alloc (.cells #[.int .i64 3, .int .i64 (a : Nat), .int .i64 b, .int .i64 c] 82))
 rw [hw1] at hb1 g1
 have o0 : w1.cell? ⟨W.heap.size, 0, none⟩ = some (.int .i64 3) := a0a g1 rfl
 have o1 : w1.cell? ⟨W.heap.size, 1, none⟩ = some (.int .i64 (a : Nat)) := a0a g1 rfl
 have hnw : ∀ w2, Below W.heap.size W w2 → Calls Tryz.prog 98 #[.pointer (some ⟨p.B, 0, none⟩)] w2 _ := fun w2 hb => b3d (h.on hb) h2
 have hn0 : W.heap.size ∉ p.own := fun e => by have := h.lt _ e; omega
 obtain ⟨tv, htv⟩ := exq (tbV s.tb.length)
 obtain ⟨n, hn⟩ := exq (q.x.rs.length)
 have hO : ∀ w3 : World, ∀ p' : Mp, p'.fw = p.fw → (∃ s', Mc w0 p' fv mn s' w3) → MK p.own w1.drew p'.own w3 → w3.cell? ⟨W.heap.size, 1, none⟩ = some (.int .i64 (a : Nat)) ∧ a3g w3 q.g a va := fun w3 p' hf ⟨s', hM⟩ hK => by
  have hx := (hK.box (show w1.drew.heap[W.heap.size]? = _ from g1) hn0).1
  exact ⟨a0a hx rfl, hM.reg (by rw [hf]; exact hq) hva⟩
 rw [htv] at hnw ⊢
 rw [hn] at hla ⊢
 replace hnw : Hid _ := hnw
 replace hO : Hid _ := hO
 clear hva hn hfw
 go_enter Tryz.func80, Tryz.ntmps80
 go_wp2
 go_region_with (first | (go_at_call 98; refine (hnw.out _ (a0i hb1)).mono ?_; rintro e w2 (⟨hh, rfl, hb2⟩ | ⟨hh, rfl, p', e1, e2, e3, e4, hM, hK⟩); (exact ⟨rfl, .inl ⟨hh, rfl, a0b (a0i hb1) hb2⟩⟩); obtain ⟨s0, ⟨t0, t1, t2⟩, f0, f1, f2⟩ := hO.out w2 p' e3 ⟨_, hM⟩ hK))
 all_goals
  go_wp2
  go_end0
  exact .inr ⟨hh, rfl, p', w2, e1, e2, e3, e4, hM, (MK.below (a0i hb1)).trans hK, rfl⟩
end
theorem kg {a c : Nat} {r : Vl} (h : c ≠ B) : (putg w B a r).cell? ⟨c, o, none⟩ = w.cell? ⟨c, o, none⟩ := World.cell?_of_block (a := ⟨c, o, none⟩) ((a0f _ _ h).trans ((a0f _ _ h).trans (a0f _ _ h)))
theorem c5p (B F fc k g n cp a b fn nf : Nat) (c : Int) (fb off cf cb coff cl cc : Nat) (va vb : Vl) (W : World) (ha : a3g W g a va) (hla : a < n) (c0 : W.cell? ⟨B, 0, none⟩ = some (.slice (some ⟨fb, off, none⟩) nf cf)) (c2 : W.cell? ⟨B, 2, none⟩ = some (.slice (some ⟨F, 0, none⟩) (k + 1) fc)) (hk : k ≤ 1000) (d0 : W.cell? ⟨F, k * 4, none⟩ = some (.int .i64 (fn : Nat))) (hfn : fn < nf) (d2 : W.cell? ⟨fb, off + fn * 4 + 2, none⟩ = some (.slice (some ⟨cb, coff, none⟩) cl cc)) (hbl : b < cl) (hv : a1m W cb (coff + b * 3) vb) (n1 : B ≠ g) (n2 : F ≠ g) (n3 : fb ≠ g) (n4 : cb ≠ g) :
  Calls Tryz.prog 80 #[.pointer (some ⟨B, 0, none⟩), .slice (some ⟨g, 0, none⟩) n cp, .agg #[.int .i64 2, .int .i64 (a : Nat), .int .i64 (b : Nat), .int .i64 c]] W fun e W' => e = .returned (.tuple #[]) ∧ ∃ V, Below W.heap.size W V ∧ W' = putg V g a vb := by
 have hb1 := a0c (Below.refl W.heap.size W) (.cells #[.int .i64 2, .int .i64 (a : Nat), .int .i64 (b : Nat), .int .i64 c] 82)
 have g1 : (W.alloc (.cells #[.int .i64 2, .int .i64 (a : Nat), .int .i64 (b : Nat), .int .i64 c] 82)).heap[W.heap.size]? = some (.cells #[.int .i64 2, .int .i64 (a : Nat), .int .i64 (b : Nat), .int .i64 c] 82) := a0h _ _
 obtain ⟨w1, hw1⟩ := exq (W.alloc (.cells #[.int .i64 2, .int .i64 (a : Nat), .int .i64 (b : Nat), .int .i64 c] 82))
 rw [hw1] at hb1 g1
 have o0 : w1.cell? ⟨W.heap.size, 0, none⟩ = some (.int .i64 2) := a0a g1 rfl
 have o1 : w1.cell? ⟨W.heap.size, 1, none⟩ = some (.int .i64 (a : Nat)) := a0a g1 rfl
 have o2 : w1.cell? ⟨W.heap.size, 2, none⟩ = some (.int .i64 (b : Nat)) := a0a g1 rfl
 have hgl := World.block_lt_of_cell? _ _ ha.t.k
 have hcl := World.block_lt_of_cell? _ _ hv.k
 simp only at hgl hcl
 obtain ⟨⟨a0, a1, a2⟩, f0, f1, f2⟩ := ha.on hb1
 have k0 := a0l hb1 c0
 have k2 := a0l hb1 c2
 have e0 := a0l hb1 d0
 have e2 := a0l hb1 d2
 obtain ⟨v0, v1, v2⟩ := hv.below hb1 hcl
 have ht : ∀ m : Nat, Calls Tryz.prog 76 #[.pointer (some ⟨B, 0, none⟩)] (w1.drewN m) fun e W' => e = .returned (.pointer (some ⟨F, k * 4, none⟩)) ∧ ∃ n, W' = (w1.drewN m).drewN n := fun m => a3s B F fc k _ k2 hk
 have n5 : W.heap.size ≠ g := by omega
 clear ha c0 c2 d0 d2 hv g1
 go_enter Tryz.func80, Tryz.ntmps80
 go_wp2
 go_region_held3 (fun u => u.cell? ⟨W.heap.size, 1, none⟩ = some (.int .i64 (a : Nat)) ∧ u.cell? ⟨W.heap.size, 2, none⟩ = some (.int .i64 (b : Nat)) ∧ u.cell? ⟨B, 0, none⟩ = some (.slice (some ⟨fb, off, none⟩) nf cf) ∧ u.cell? ⟨F, k * 4, none⟩ = some (.int .i64 (fn : Nat)) ∧ u.cell? ⟨fb, off + fn * 4 + 2, none⟩ = some (.slice (some ⟨cb, coff, none⟩) cl cc) ∧ u.cell? ⟨cb, coff + b * 3, none⟩ = some (.int .i64 vb.k) ∧ u.cell? ⟨cb, coff + b * 3 + 1, none⟩ = some (.int .i64 vb.n) ∧ u.cell? ⟨cb, coff + b * 3 + 2, none⟩ = some (.string vb.s)) (first | go_keep | with_reducible exact ⟨(kg n5).trans o1, (kg n5).trans o2, (kg n1).trans k0, (kg n2).trans e0, (kg n3).trans e2, (kg n4).trans v0, (kg n4).trans v1, (kg n4).trans v2⟩ | exact ⟨(kg n5).trans o1, (kg n5).trans o2, (kg n1).trans k0, (kg n2).trans e0, (kg n3).trans e2, (kg n4).trans v0, (kg n4).trans v1, (kg n4).trans v2⟩) (first | (go_at_call 76; refine (ht 1).mono ?_; rintro e w2 ⟨rfl, m, rfl⟩))
 all_goals
  go_wp2
  go_end0
  exact ⟨rfl, w1.drewN (1 + m), a1q hb1, rfl⟩
theorem c5q {u v : Value} (h : w.cell? ⟨B, o, none⟩ = some u) : (w.setCell ⟨B, o, none⟩ v).cell? ⟨B, o, none⟩ = some v := by
 simp only [World.cell?] at h
 cases hb : w.heap[B]? with
 | none => simp [hb] at h
 | some ob =>
  cases ob with
  | cells c t z =>
   simp [hb] at h
   have := a0k (i := o) v hb
   refine a0a this ?_
   have hlt : o < c.size := by
    obtain ⟨hl, _⟩ := Array.getElem?_eq_some_iff.1 h
    exact hl
   simp [hlt]
  | _ => simp [hb] at h
section
variable {w0 : World} {p : Mp} {fv : Value} {mn : Int} {s : St} {W : World}
theorem c5r (h : Mc w0 p fv mn s W) (h1 : s.fr.length = 1) (v : Vl) :
  Calls Tryz.prog 79 #[.pointer (some ⟨p.B, 0, none⟩), v.v] W fun e W' => e = .returned (.tuple #[]) ∧ Mc w0 p fv mn { s with en := 1, la := v } W' ∧ MK p.own W p.own W' := by
 have hb1 := a0c (Below.refl W.heap.size W) (.cells #[.int .i64 v.k, .int .i64 v.n, .string v.s] 30)
 have g1 : (W.alloc (.cells #[.int .i64 v.k, .int .i64 v.n, .string v.s] 30)).heap[W.heap.size]? = some (bx v) := a0h _ _
 obtain ⟨w1, hw1⟩ := exq (W.alloc (.cells #[.int .i64 v.k, .int .i64 v.n, .string v.s] 30))
 rw [hw1] at hb1 g1
 have hM := h.on hb1
 obtain ⟨_, _, c2, _, _, _, c6, _, c8, c9, c10, fz⟩ := hM.cells
 rw [h1] at c2
 have f6 := fz 6
 have f8 := fz 8
 have f9 := fz 9
 have f10 := fz 10
 obtain ⟨p0, p1, p2, _, _, _⟩ := in3 g1
 have hB := h.lt _ a1d
 have n1 : ¬ W.heap.size = p.B := by omega
 have n2 : ¬ p.B = W.heap.size := by omega
 have hbox := hM.box
 clear fz
 go_enter Tryz.func79, Tryz.ntmps79
 go_wp2
 go_region
 have hk : MK p.own w1 p.own ((((w1.setCell ⟨p.B, 6, none⟩ (.int .i64 1)).setCell ⟨p.B, 8, none⟩ (.int .i64 v.k)).setCell ⟨p.B, 9, none⟩ (.int .i64 v.n)).setCell ⟨p.B, 10, none⟩ (.string v.s)).drew :=
  ⟨(((((a1n.refl _ _).set p.B 6 _ (fun _ => a1d)).set p.B 8 _ (fun _ => a1d)).set p.B 9 _ (fun _ => a1d)).set p.B 10 _ (fun _ => a1d)).drew, fun _ => .inl⟩
 have hx := a0k (i := 10) (.string v.s) (a0k (i := 9) (.int .i64 v.n) (a0k (i := 8) (.int .i64 v.k) (a0k (i := 6) (.int .i64 1) hbox)))
 have hres := hM.scal (s' := { s with en := 1, la := v }) rfl rfl rfl hk (fun b hb => (a0f _ _ hb).trans ((a0f _ _ hb).trans ((a0f _ _ hb).trans (a0f _ _ hb)))) (by refine Eq.trans hx ?_; simp [mcb])
 go_wp2
 exact bodyPost_ret (v := .tuple #[]) (by simp [results, Tryz.results79, go_sem]) rfl ⟨rfl, hres, (MK.below hb1).trans hk⟩
theorem b7k (B F fc k g n cp d : Nat) (v vd : Vl) (W : World) (c2 : W.cell? ⟨B, 2, none⟩ = some (.slice (some ⟨F, 0, none⟩) (k + 1 + 1) fc)) (z2 : W.frozen? ⟨B, 2, none⟩ = false) (hk : k ≤ 1000) (hfc : k + 1 + 1 ≤ fc) (d2 : W.cell? ⟨F, (k + 1) * 4 + 2, none⟩ = some (.int .i64 (d : Nat))) (r3 : W.cell? ⟨F, k * 4 + 3, none⟩ = some (.slice (some ⟨g, 0, none⟩) n cp)) (hd : d < n) (hr : a3g W g d vd) (n1 : F ≠ B) (n2 : g ≠ B) (n4 : F ≠ g) :
  Calls Tryz.prog 79 #[.pointer (some ⟨B, 0, none⟩), v.v] W fun e W' => e = .returned (.tuple #[]) ∧ ∃ V m, Below W.heap.size W V ∧ W' = putg ((V.setCell ⟨B, 2, none⟩ (.slice (some ⟨F, 0, none⟩) (k + 1) fc)).drewN m) g d v := by
 have hb1 := a0c (Below.refl W.heap.size W) (.cells #[.int .i64 v.k, .int .i64 v.n, .string v.s] 30)
 have g1 : (W.alloc (.cells #[.int .i64 v.k, .int .i64 v.n, .string v.s] 30)).heap[W.heap.size]? = some (bx v) := a0h _ _
 obtain ⟨w1, hw1⟩ := exq (W.alloc (.cells #[.int .i64 v.k, .int .i64 v.n, .string v.s] 30))
 rw [hw1] at hb1 g1
 have hB := World.block_lt_of_cell? _ _ c2
 have hF := World.block_lt_of_cell? _ _ d2
 have hg := World.block_lt_of_cell? _ _ hr.t.k
 simp only at hB hF hg
 have k2 := a0l hb1 c2
 have kz := (hb1.frozen (p := ⟨B, 2, none⟩) hB).trans z2
 have k3 := a0l hb1 d2
 have k4 := a0l hb1 r3
 obtain ⟨p0, p1, p2, _, _, _⟩ := in3 g1
 have n3 : W.heap.size ≠ B := by omega
 obtain ⟨Y, hY⟩ := exq (w1.setCell ⟨B, 2, none⟩ (.slice (some ⟨F, 0, none⟩) (k + 1) fc))
 have hoth : ∀ b o, b ≠ B → Y.cell? ⟨b, o, none⟩ = w1.cell? ⟨b, o, none⟩ := fun b o hb => by rw [← hY]; exact World.cell?_of_block (a := ⟨b, o, none⟩) (a0f _ _ hb)
 have hfz : ∀ b o, b ≠ B → Y.frozen? ⟨b, o, none⟩ = w1.frozen? ⟨b, o, none⟩ := fun b o hb => by rw [← hY]; exact World.frozen?_of_block (a := ⟨b, o, none⟩) (a0f _ _ hb)
 have y2 : Y.cell? ⟨B, 2, none⟩ = some (.slice (some ⟨F, 0, none⟩) (k + 1) fc) := by rw [← hY]; exact c5q k2
 have y4 := (hoth F (k * 4 + 3) n1).trans k4
 have q0 := (hoth W.heap.size 0 n3).trans p0
 have q1 := (hoth W.heap.size 1 n3).trans p1
 have q2 := (hoth W.heap.size 2 n3).trans p2
 obtain ⟨⟨a0, a1, a2⟩, f0, f1, f2⟩ := hr.on hb1
 replace a0 := (hoth g _ n2).trans a0
 replace a1 := (hoth g _ n2).trans a1
 replace a2 := (hoth g _ n2).trans a2
 replace f0 := (hfz g _ n2).trans f0
 replace f1 := (hfz g _ n2).trans f1
 replace f2 := (hfz g _ n2).trans f2
 have ht : ∀ m : Nat, Calls Tryz.prog 76 #[.pointer (some ⟨B, 0, none⟩)] (Y.drewN m) fun e W' => e = .returned (.pointer (some ⟨F, k * 4, none⟩)) ∧ ∃ n, W' = (Y.drewN m).drewN n := fun m => a3s B F fc k _ y2 hk
 clear hoth hfz
 go_enter Tryz.func79, Tryz.ntmps79
 have n5 : W.heap.size ≠ g := by omega
 go_wp2
 go_region_held3 (fun u => u.cell? ⟨F, k * 4 + 3, none⟩ = some (.slice (some ⟨g, 0, none⟩) n cp) ∧ u.cell? ⟨W.heap.size, 0, none⟩ = some (.int .i64 v.k) ∧ u.cell? ⟨W.heap.size, 1, none⟩ = some (.int .i64 v.n) ∧ u.cell? ⟨W.heap.size, 2, none⟩ = some (.string v.s)) (first | go_keep | exact ⟨(kg n4).trans y4, (kg n5).trans q0, (kg n5).trans q1, (kg n5).trans q2⟩) (first | (go_at_call 76; refine (ht 1).mono ?_; rintro e w2 ⟨rfl, m, rfl⟩))
 all_goals
  go_wp2
  go_end0
  subst hY
  exact ⟨rfl, w1, 1 + m, hb1, rfl⟩
end
section
variable {w0 : World} {p : Mp} {fv : Value} {mn : Int} {s : St} {W : World}
theorem c1e (h : Mc w0 p fv mn s W) (hg : Good fs s) (e : p.fw = l ++ [q]) (v : Vl) :
  Calls Tryz.prog 79 #[.pointer (some ⟨p.B, 0, none⟩), v.v] W fun E W' => E = .returned (.tuple #[]) ∧ ∃ p', p'.B = p.B ∧ p'.ap = p.ap ∧ Mc w0 p' fv mn (match (l.map Fw.x).getLast? with | none => { s with en := 1, la := v } | some y => { s with fr := (l.map Fw.x).dropLast ++ [putR y q.x.d v] }) W' ∧ MK p.own W p'.own W' := by
 have hfr : s.fr = l.map Fw.x ++ [q.x] := by rw [← h.hf, e]; simp
 cases hl : (l.map Fw.x).getLast? with
 | none =>
  have hl0 : l = [] := by simpa using List.getLast?_eq_none_iff.1 hl
  have h1 : s.fr.length = 1 := by rw [hfr, hl0]; rfl
  refine (c5r h h1 v).mono fun E W' hh => ?_
  exact ⟨hh.1, p, rfl, rfl, hh.2.1, hh.2.2⟩
 | some y =>
  have hne : l ≠ [] := fun e => by rw [e] at hl; simp at hl
  obtain ⟨l', z, rfl⟩ : ∃ l' z, l = l' ++ [z] := ⟨l.dropLast, l.getLast hne, (List.dropLast_concat_getLast hne).symm⟩
  have hy : y = z.x := by simpa using hl.symm
  subst hy
  have hdg := hg.dg
  rw [hfr, DG.append, hl] at hdg
  obtain ⟨_, hd0, hd1⟩ := hdg
  simp only at hd1
  obtain ⟨d, hd⟩ : ∃ d : Nat, q.x.d = d := ⟨q.x.d.toNat, by omega⟩
  rw [hd] at hd1
  have hdl : d < z.x.rs.length := by omega
  have hz : z ∈ p.fw := by rw [e]; simp
  have hn40 := hg.n2
  have hlen : s.fr.length = l'.length + 1 + 1 := by rw [hfr]; simp
  obtain ⟨_, _, c2, _, _, _, _, _, _, _, _, fz⟩ := h.cells
  rw [hlen] at c2
  have hcells := h.fo
  have hfl := a2q l'
  have hx : ∀ j v, (z.cells ++ q.cells)[j]? = some v → (a0p p.fw)[l'.length * 4 + j]? = some v := fun j v hv => by
   have e1 : a0p p.fw = a0p l' ++ (z.cells ++ q.cells) := by rw [e]; simp [a0p]
   rw [e1, List.getElem?_append_right (by omega), hfl, Nat.add_sub_cancel_left]
   exact hv
  have d2 := (hcells.cell (hx 6 _ rfl)).1
  have r3 := (hcells.cell (hx 3 _ rfl)).1
  rw [hd] at d2
  obtain ⟨_, cur, _, hcap, _⟩ := hcells
  rw [hlen] at hcap
  have ap := a1f h.nd
  have hv : z.x.rs[d]? = some z.x.rs[d] := List.getElem?_eq_getElem hdl
  refine (b7k p.B p.F p.fc l'.length z.g z.x.rs.length z.c d v _ W c2 (fz 2) (by omega) hcap (by rw [show (l'.length + 1) * 4 + 2 = l'.length * 4 + 6 by omega]; exact d2) r3 hdl (h.reg hz hv) ap.bf.symm (ap.gb z hz) (ap.gf z hz).symm).mono fun E W' hh => ?_
  obtain ⟨rfl, V, m, hb, rfl⟩ := hh
  have hV := h.on hb
  obtain ⟨hM, hK⟩ := hV.pop e
  have hll : (l' ++ [z]).length = l'.length + 1 := by simp
  rw [hll] at hM hK
  have hM2 := hM.on (a1q (n := m) (Below.refl _ _))
  obtain ⟨p', x1, x2, x3, x4, x5, x6⟩ := hM2.setReg (l := l') (q := z) rfl d v _ rfl
  refine ⟨rfl, p', x1, x2, ?_, (MK.below hb).trans (hK.trans ((MK.below (a1q (n := m) (Below.refl _ _))).trans x6))⟩
  have e9 : putR z.x q.x.d v = { z.x with rs := z.x.rs.set d v } := by rw [hd]; simp [putR]
  simp only [e9, List.map_append, List.map_cons, List.map_nil, List.dropLast_concat]
  exact x5
end
theorem d4t (B g n cp a b c : Nat) (op : Int) (va vb vc : Vl) (R : Int ⊕ Vl) (W : World) (ha : a3g W g a va) (hb : a3g W g b vb) (hc : a3g W g c vc) (hla : a < n) (hlb : b < n) (hlc : c < n) (h1 : (op == 1) = false) (h2 : (op == 2) = false) (h3 : (op == 3) = false) (h4 : (op == 4) = false) (h5 : (op == 5) = false) (h6 : (op == 6) = false) (h7 : (op == 7) = false) (h13 : (op == 13) = false) (h30 : (op == 30) = false) (h31 : (op == 31) = false) (ho1 : 21 ≤ op) (ho2 : op ≤ 29) (hq : ∀ w2, Below W.heap.size W w2 → Calls Tryz.prog 104 #[.pointer (some ⟨B, 0, none⟩), .int .i64 (op - 20), vb.v, vc.v] w2 (VQ w2 R)) :
  Calls Tryz.prog 80 #[.pointer (some ⟨B, 0, none⟩), .slice (some ⟨g, 0, none⟩) n cp, .agg #[.int .i64 op, .int .i64 (a : Nat), .int .i64 (b : Nat), .int .i64 (c : Nat)]] W (PQ W g a R) := by
 have hg := World.block_lt_of_cell? _ _ ha.t.k
 simp only at hg
 have hb1 := a0c (Below.refl W.heap.size W) (.cells #[.int .i64 op, .int .i64 (a : Nat), .int .i64 (b : Nat), .int .i64 (c : Nat)] 82)
 have g1 : (W.alloc (.cells #[.int .i64 op, .int .i64 (a : Nat), .int .i64 (b : Nat), .int .i64 (c : Nat)] 82)).heap[W.heap.size]? = some (.cells #[.int .i64 op, .int .i64 (a : Nat), .int .i64 (b : Nat), .int .i64 (c : Nat)] 82) := a0h _ _
 obtain ⟨w1, hw1⟩ := exq (W.alloc (.cells #[.int .i64 op, .int .i64 (a : Nat), .int .i64 (b : Nat), .int .i64 (c : Nat)] 82))
 rw [hw1] at hb1 g1
 have o0 : w1.cell? ⟨W.heap.size, 0, none⟩ = some (.int .i64 op) := a0a g1 rfl
 have o1 : w1.cell? ⟨W.heap.size, 1, none⟩ = some (.int .i64 (a : Nat)) := a0a g1 rfl
 have o2 : w1.cell? ⟨W.heap.size, 2, none⟩ = some (.int .i64 (b : Nat)) := a0a g1 rfl
 have o3 : w1.cell? ⟨W.heap.size, 3, none⟩ = some (.int .i64 (c : Nat)) := a0a g1 rfl
 obtain ⟨⟨b0, b1, b2⟩, _, _, _⟩ := hb.on hb1
 obtain ⟨⟨c0, c1, c2⟩, _, _, _⟩ := hc.on hb1
 have hS : ∀ u, Below w1.heap.size w1 u → u.cell? ⟨W.heap.size, 1, none⟩ = some (.int .i64 (a : Nat)) ∧ a3g u g a va := fun u h => ⟨a0l h o1, (ha.on hb1).on h⟩
 have hq' : ∀ w2, Below W.heap.size W w2 → Calls Tryz.prog 104 #[.pointer (some ⟨B, 0, none⟩), .int .i64 (op - 20), vb.v, vc.v] w2 (VT w2 R) := fun w2 h => (hq w2 h).mono fun _ _ k => k.two
 have hO : ∀ u, Below w1.heap.size w1 u → u.cell? ⟨W.heap.size, 0, none⟩ = some (.int .i64 op) ∧ u.cell? ⟨W.heap.size, 1, none⟩ = some (.int .i64 (a : Nat)) ∧ u.cell? ⟨W.heap.size, 2, none⟩ = some (.int .i64 (b : Nat)) ∧ u.cell? ⟨W.heap.size, 3, none⟩ = some (.int .i64 (c : Nat)) := fun u h => ⟨a0l h o0, a0l h o1, a0l h o2, a0l h o3⟩
 have hw20 : IntKind.i64.wrap (op - 20) = op - 20 := IntWalk.i64_in _ ⟨by omega, by omega⟩
 replace hq' : Hid _ := hq'
 replace hS : Hid _ := hS
 replace hO : Hid _ := hO
 clear hq g1 ha hb hc
 have hg' : g ≠ W.heap.size := by omega
 go_enter Tryz.func80, Tryz.ntmps80
 go_wp2
 refine wp_region_held_drew (S := fun u => u.cell? ⟨W.heap.size, 0, none⟩ = some (.int .i64 op) ∧ u.cell? ⟨W.heap.size, 1, none⟩ = some (.int .i64 (a : Nat)) ∧ u.cell? ⟨W.heap.size, 2, none⟩ = some (.int .i64 (b : Nat)) ∧ u.cell? ⟨W.heap.size, 3, none⟩ = some (.int .i64 (c : Nat))) (by kernel_rfl) (hO.out _ (a0i (Below.refl _ _))) (fun hHeld => ?_)
 change wpAnyH _ _ _ _ _ 20 _ _ _
 refine' wpAnyH_take (i := 0) (oi := { dst := some 8, op := Op.move (Operand.tmp 1), type := 48, pos := "order.go:51", after := #[], guard := none }) (v := _) (fuel := 19) rfl (by kernel_rfl) (by kernel_rfl) (by kernel_rfl) (fun _ _ _ h => h) (Or.inl ⟨by rfl, ?hy0⟩) hHeld ?rest0
 case hy0 => (intro w ⟨_, _, _, _⟩; go_simp; try with_reducible rfl)
 simp only [Act.put, List.setIfInBounds_toArray, List.set_cons_zero, List.set_cons_succ]
 refine' wpAnyH_take (i := 1) (oi := { dst := some 9, op := Op.fieldAddr 82 (Operand.tmp 5) 1, type := 0, pos := "order.go:51", after := #[], guard := none }) (v := _) (fuel := 18) rfl (by kernel_rfl) (by kernel_rfl) (by kernel_rfl) (fun _ _ _ h => h) (Or.inl ⟨by rfl, ?hy1⟩) hHeld ?rest1
 case hy1 => (intro w ⟨_, _, _, _⟩; go_simp; try with_reducible rfl)
 simp only [Act.put, List.setIfInBounds_toArray, List.set_cons_zero, List.set_cons_succ]
 refine' wpAnyH_take (i := 2) (oi := { dst := some 10, op := Op.load 3 (Operand.tmp 9), type := 3, pos := "order.go:51", after := #[{ on := 1, ground := Ground.data }], guard := none }) (v := _) (fuel := 17) rfl (by kernel_rfl) (by kernel_rfl) (by kernel_rfl) (fun _ _ _ h => h) (Or.inl ⟨by rfl, ?hy2⟩) hHeld ?rest2
 case hy2 => (intro w ⟨_, _, _, _⟩; go_simp; try with_reducible rfl)
 simp only [Act.put, List.setIfInBounds_toArray, List.set_cons_zero, List.set_cons_succ]
 refine' wpAnyH_take (i := 3) (oi := { dst := some 11, op := Op.move (Operand.tmp 0), type := 44, pos := "order.go:51", after := #[], guard := none }) (v := _) (fuel := 16) rfl (by kernel_rfl) (by kernel_rfl) (by kernel_rfl) (fun _ _ _ h => h) (Or.inl ⟨by rfl, ?hy3⟩) hHeld ?rest3
 case hy3 => (intro w ⟨_, _, _, _⟩; go_simp; try with_reducible rfl)
 simp only [Act.put, List.setIfInBounds_toArray, List.set_cons_zero, List.set_cons_succ]
 refine' wpAnyH_take (i := 4) (oi := { dst := some 12, op := Op.fieldAddr 82 (Operand.tmp 5) 0, type := 0, pos := "order.go:51", after := #[], guard := none }) (v := _) (fuel := 15) rfl (by kernel_rfl) (by kernel_rfl) (by kernel_rfl) (fun _ _ _ h => h) (Or.inl ⟨by rfl, ?hy4⟩) hHeld ?rest4
 case hy4 => (intro w ⟨_, _, _, _⟩; go_simp; try with_reducible rfl)
 simp only [Act.put, List.setIfInBounds_toArray, List.set_cons_zero, List.set_cons_succ]
 refine' wpAnyH_take (i := 5) (oi := { dst := some 13, op := Op.load 3 (Operand.tmp 12), type := 3, pos := "order.go:51", after := #[{ on := 4, ground := Ground.data }], guard := none }) (v := _) (fuel := 14) rfl (by kernel_rfl) (by kernel_rfl) (by kernel_rfl) (fun _ _ _ h => h) (Or.inl ⟨by rfl, ?hy5⟩) hHeld ?rest5
 case hy5 => (intro w ⟨_, _, _, _⟩; go_simp; try with_reducible rfl)
 simp only [Act.put, List.setIfInBounds_toArray, List.set_cons_zero, List.set_cons_succ]
 refine' wpAnyH_take (i := 6) (oi := { dst := some 14, op := Op.binOp BinOp.sub 3 (Operand.tmp 13) (Operand.const (Value.int IntKind.i64 20)) 3, type := 3, pos := "order.go:51", after := #[{ on := 5, ground := Ground.data }], guard := none }) (v := _) (fuel := 13) rfl (by kernel_rfl) (by kernel_rfl) (by kernel_rfl) (fun _ _ _ h => h) (Or.inl ⟨by rfl, ?hy6⟩) hHeld ?rest6
 case hy6 => (intro w ⟨_, _, _, _⟩; go_simp; try with_reducible rfl)
 simp only [Act.put, List.setIfInBounds_toArray, List.set_cons_zero, List.set_cons_succ]
 refine' wpAnyH_take (i := 7) (oi := { dst := some 15, op := Op.move (Operand.tmp 1), type := 48, pos := "order.go:51", after := #[], guard := none }) (v := _) (fuel := 12) rfl (by kernel_rfl) (by kernel_rfl) (by kernel_rfl) (fun _ _ _ h => h) (Or.inl ⟨by rfl, ?hy7⟩) hHeld ?rest7
 case hy7 => (intro w ⟨_, _, _, _⟩; go_simp; try with_reducible rfl)
 simp only [Act.put, List.setIfInBounds_toArray, List.set_cons_zero, List.set_cons_succ]
 refine' wpAnyH_take (i := 8) (oi := { dst := some 16, op := Op.fieldAddr 82 (Operand.tmp 5) 2, type := 0, pos := "order.go:51", after := #[], guard := none }) (v := _) (fuel := 11) rfl (by kernel_rfl) (by kernel_rfl) (by kernel_rfl) (fun _ _ _ h => h) (Or.inl ⟨by rfl, ?hy8⟩) hHeld ?rest8
 case hy8 => (intro w ⟨_, _, _, _⟩; go_simp; try with_reducible rfl)
 simp only [Act.put, List.setIfInBounds_toArray, List.set_cons_zero, List.set_cons_succ]
 refine' wpAnyH_take (i := 9) (oi := { dst := some 17, op := Op.load 3 (Operand.tmp 16), type := 3, pos := "order.go:51", after := #[{ on := 8, ground := Ground.data }], guard := none }) (v := _) (fuel := 10) rfl (by kernel_rfl) (by kernel_rfl) (by kernel_rfl) (fun _ _ _ h => h) (Or.inl ⟨by rfl, ?hy9⟩) hHeld ?rest9
 case hy9 => (intro w ⟨_, _, _, _⟩; go_simp; try with_reducible rfl)
 simp only [Act.put, List.setIfInBounds_toArray, List.set_cons_zero, List.set_cons_succ]
 refine' wpAnyH_take (i := 10) (oi := { dst := some 18, op := Op.indexAddr 48 (Operand.tmp 15) (Operand.tmp 17), type := 0, pos := "order.go:51", after := #[{ on := 7, ground := Ground.data }, { on := 9, ground := Ground.data }], guard := none }) (v := _) (fuel := 9) rfl (by kernel_rfl) (by kernel_rfl) (by kernel_rfl) (fun _ _ _ h => h) (Or.inl ⟨by rfl, ?hy10⟩) hHeld ?rest10
 case hy10 => (intro w ⟨_, _, _, _⟩; go_simp; try with_reducible rfl)
 simp only [Act.put, List.setIfInBounds_toArray, List.set_cons_zero, List.set_cons_succ]
 refine' wpAnyH_take (i := 12) (oi := { dst := some 20, op := Op.move (Operand.tmp 1), type := 48, pos := "order.go:51", after := #[], guard := none }) (v := _) (fuel := 8) rfl (by kernel_rfl) (by kernel_rfl) (by kernel_rfl) (fun _ _ _ h => h) (Or.inl ⟨by rfl, ?hy12⟩) hHeld ?rest12
 case hy12 => (intro w ⟨_, _, _, _⟩; go_simp; try with_reducible rfl)
 simp only [Act.put, List.setIfInBounds_toArray, List.set_cons_zero, List.set_cons_succ]
 refine' wpAnyH_take (i := 13) (oi := { dst := some 21, op := Op.fieldAddr 82 (Operand.tmp 5) 3, type := 0, pos := "order.go:51", after := #[], guard := none }) (v := _) (fuel := 7) rfl (by kernel_rfl) (by kernel_rfl) (by kernel_rfl) (fun _ _ _ h => h) (Or.inl ⟨by rfl, ?hy13⟩) hHeld ?rest13
 case hy13 => (intro w ⟨_, _, _, _⟩; go_simp; try with_reducible rfl)
 simp only [Act.put, List.setIfInBounds_toArray, List.set_cons_zero, List.set_cons_succ]
 refine' wpAnyH_take (i := 14) (oi := { dst := some 22, op := Op.load 3 (Operand.tmp 21), type := 3, pos := "order.go:51", after := #[{ on := 13, ground := Ground.data }], guard := none }) (v := _) (fuel := 6) rfl (by kernel_rfl) (by kernel_rfl) (by kernel_rfl) (fun _ _ _ h => h) (Or.inl ⟨by rfl, ?hy14⟩) hHeld ?rest14
 case hy14 => (intro w ⟨_, _, _, _⟩; go_simp; try with_reducible rfl)
 simp only [Act.put, List.setIfInBounds_toArray, List.set_cons_zero, List.set_cons_succ]
 refine' wpAnyH_take (i := 15) (oi := { dst := some 23, op := Op.indexAddr 48 (Operand.tmp 20) (Operand.tmp 22), type := 0, pos := "order.go:51", after := #[{ on := 12, ground := Ground.data }, { on := 14, ground := Ground.data }], guard := none }) (v := _) (fuel := 5) rfl (by kernel_rfl) (by kernel_rfl) (by kernel_rfl) (fun _ _ _ h => h) (Or.inl ⟨by rfl, ?hy15⟩) hHeld ?rest15
 case hy15 => (intro w ⟨_, _, _, _⟩; go_simp; try with_reducible rfl)
 simp only [Act.put, List.setIfInBounds_toArray, List.set_cons_zero, List.set_cons_succ]
 refine wpAnyH_ready (rs := [11, 16]) (by kernel_rfl) (by simp) ?_
 refine AllReadyH.cons (o := { dst := some 19, op := Op.load 30 (Operand.tmp 18), type := 30, pos := "order.go:51", after := #[{ on := 10, ground := Ground.data }], guard := none }) rfl (fun K hK => ?_) ?_
 ·go_simp
  refine hK.out _ _ hHeld (fun _ => ?_)
  clear hK K
  try simp only [Act.put, List.setIfInBounds_toArray, List.set_cons_zero, List.set_cons_succ]
  refine wpAnyH_ready (rs := [16]) (by kernel_rfl) (by simp) ?_
  refine AllReadyH.cons (o := { dst := some 24, op := Op.load 30 (Operand.tmp 23), type := 30, pos := "order.go:51", after := #[{ on := 15, ground := Ground.data }], guard := none }) rfl (fun K hK => ?_) AllReadyH.nil
  go_simp
  refine hK.out _ _ hHeld (fun _ => ?_)
  clear hK K
  try simp only [Act.put, List.setIfInBounds_toArray, List.set_cons_zero, List.set_cons_succ]
  refine wpAnyH_ready (rs := [17]) (by kernel_rfl) (by simp) ?_
  refine AllReadyH.cons (o := { dst := some 25, op := Op.call { callee := Callee.value (Operand.func 104), args := #[Operand.tmp 11, Operand.tmp 14, Operand.tmp 19, Operand.tmp 24], argTypes := #[44, 3, 30, 30] }, type := 30, pos := "order.go:51", after := #[{ on := 3, ground := Ground.data }, { on := 6, ground := Ground.data }, { on := 11, ground := Ground.data }, { on := 16, ground := Ground.data }], guard := none }) rfl (fun K hK => ?_) AllReadyH.nil
  go_simp
  go_at_call 104
  refine (hq'.out _ (a0i hb1)).mono ?_
  rintro e w2 ⟨hb2, (⟨cc, hR, rfl⟩ | ⟨r, hR, rfl⟩)⟩
  ·exact ⟨rfl, .inl ⟨cc, hR, rfl, a0b (a0i hb1) hb2⟩⟩
  obtain ⟨k1, ⟨_, _, _⟩, fa0, fa1, fa2⟩ := hS.out w2 (a0b (a0i (Below.refl _ _)) hb2)
  have hH2 := hO.out w2 (a0b (a0i (Below.refl _ _)) hb2)
  refine hK.out _ _ hH2 (fun _ => ?_)
  clear hK K
  try simp only [Act.put, List.setIfInBounds_toArray, List.set_cons_zero, List.set_cons_succ]
  refine' wpAnyH_take (i := 18) (oi := { dst := some 26, op := Op.indexAddr 48 (Operand.tmp 8) (Operand.tmp 10), type := 0, pos := "order.go:51", after := #[{ on := 0, ground := Ground.data }, { on := 2, ground := Ground.data }, { on := 0, ground := Ground.phase }, { on := 1, ground := Ground.phase }, { on := 2, ground := Ground.phase }, { on := 3, ground := Ground.phase }, { on := 4, ground := Ground.phase }, { on := 5, ground := Ground.phase }, { on := 6, ground := Ground.phase }, { on := 7, ground := Ground.phase }, { on := 8, ground := Ground.phase }, { on := 9, ground := Ground.phase }, { on := 10, ground := Ground.phase }, { on := 11, ground := Ground.phase }, { on := 12, ground := Ground.phase }, { on := 13, ground := Ground.phase }, { on := 14, ground := Ground.phase }, { on := 15, ground := Ground.phase }, { on := 16, ground := Ground.phase }, { on := 17, ground := Ground.phase }], guard := none }) (v := _) (fuel := 1) rfl (by kernel_rfl) (by kernel_rfl) (by kernel_rfl) (fun _ _ _ h => h) (Or.inl ⟨by rfl, ?hy1811⟩) hH2 ?rest1811
  case hy1811 => (intro w ⟨_, _, _, _⟩; go_simp; try with_reducible rfl)
  try simp only [Act.put, List.setIfInBounds_toArray, List.set_cons_zero, List.set_cons_succ]
  refine wpAnyH_ready (rs := [19]) (by kernel_rfl) (by simp) ?_
  refine AllReadyH.cons (o := { dst := none, op := Op.store 30 (Operand.tmp 26) (Operand.tmp 25), type := 0, pos := "order.go:51", after := #[{ on := 18, ground := Ground.data }, { on := 17, ground := Ground.data }, { on := 17, ground := Ground.chain }, { on := 0, ground := Ground.phase }, { on := 1, ground := Ground.phase }, { on := 2, ground := Ground.phase }, { on := 3, ground := Ground.phase }, { on := 4, ground := Ground.phase }, { on := 5, ground := Ground.phase }, { on := 6, ground := Ground.phase }, { on := 7, ground := Ground.phase }, { on := 8, ground := Ground.phase }, { on := 9, ground := Ground.phase }, { on := 10, ground := Ground.phase }, { on := 11, ground := Ground.phase }, { on := 12, ground := Ground.phase }, { on := 13, ground := Ground.phase }, { on := 14, ground := Ground.phase }, { on := 15, ground := Ground.phase }, { on := 16, ground := Ground.phase }, { on := 17, ground := Ground.phase }], guard := none }) rfl (fun K hK => ?_) AllReadyH.nil
  go_simp
  refine hK.out _ _ ?_ (fun _ => ?_)
  ·simpa [World.cell?_setCell_far, hg'] using hH2
  clear hK K
  try simp only [Act.put, List.setIfInBounds_toArray, List.set_cons_zero, List.set_cons_succ]
  refine wpAnyH_done (by kernel_rfl) ?_ _
  go_wp2
  go_end0
  exact .inr ⟨r, hR, rfl, w2, a0b (a0i hb1) hb2, rfl⟩
 refine AllReadyH.cons (o := { dst := some 24, op := Op.load 30 (Operand.tmp 23), type := 30, pos := "order.go:51", after := #[{ on := 15, ground := Ground.data }], guard := none }) rfl (fun K hK => ?_) AllReadyH.nil
 ·go_simp
  refine hK.out _ _ hHeld (fun _ => ?_)
  clear hK K
  try simp only [Act.put, List.setIfInBounds_toArray, List.set_cons_zero, List.set_cons_succ]
  refine wpAnyH_ready (rs := [11]) (by kernel_rfl) (by simp) ?_
  refine AllReadyH.cons (o := { dst := some 19, op := Op.load 30 (Operand.tmp 18), type := 30, pos := "order.go:51", after := #[{ on := 10, ground := Ground.data }], guard := none }) rfl (fun K hK => ?_) AllReadyH.nil
  go_simp
  refine hK.out _ _ hHeld (fun _ => ?_)
  clear hK K
  try simp only [Act.put, List.setIfInBounds_toArray, List.set_cons_zero, List.set_cons_succ]
  refine wpAnyH_ready (rs := [17]) (by kernel_rfl) (by simp) ?_
  refine AllReadyH.cons (o := { dst := some 25, op := Op.call { callee := Callee.value (Operand.func 104), args := #[Operand.tmp 11, Operand.tmp 14, Operand.tmp 19, Operand.tmp 24], argTypes := #[44, 3, 30, 30] }, type := 30, pos := "order.go:51", after := #[{ on := 3, ground := Ground.data }, { on := 6, ground := Ground.data }, { on := 11, ground := Ground.data }, { on := 16, ground := Ground.data }], guard := none }) rfl (fun K hK => ?_) AllReadyH.nil
  go_simp
  go_at_call 104
  refine (hq'.out _ (a0i hb1)).mono ?_
  rintro e w2 ⟨hb2, (⟨cc, hR, rfl⟩ | ⟨r, hR, rfl⟩)⟩
  ·exact ⟨rfl, .inl ⟨cc, hR, rfl, a0b (a0i hb1) hb2⟩⟩
  obtain ⟨k1, ⟨_, _, _⟩, fa0, fa1, fa2⟩ := hS.out w2 (a0b (a0i (Below.refl _ _)) hb2)
  have hH2 := hO.out w2 (a0b (a0i (Below.refl _ _)) hb2)
  refine hK.out _ _ hH2 (fun _ => ?_)
  clear hK K
  try simp only [Act.put, List.setIfInBounds_toArray, List.set_cons_zero, List.set_cons_succ]
  refine' wpAnyH_take (i := 18) (oi := { dst := some 26, op := Op.indexAddr 48 (Operand.tmp 8) (Operand.tmp 10), type := 0, pos := "order.go:51", after := #[{ on := 0, ground := Ground.data }, { on := 2, ground := Ground.data }, { on := 0, ground := Ground.phase }, { on := 1, ground := Ground.phase }, { on := 2, ground := Ground.phase }, { on := 3, ground := Ground.phase }, { on := 4, ground := Ground.phase }, { on := 5, ground := Ground.phase }, { on := 6, ground := Ground.phase }, { on := 7, ground := Ground.phase }, { on := 8, ground := Ground.phase }, { on := 9, ground := Ground.phase }, { on := 10, ground := Ground.phase }, { on := 11, ground := Ground.phase }, { on := 12, ground := Ground.phase }, { on := 13, ground := Ground.phase }, { on := 14, ground := Ground.phase }, { on := 15, ground := Ground.phase }, { on := 16, ground := Ground.phase }, { on := 17, ground := Ground.phase }], guard := none }) (v := _) (fuel := 1) rfl (by kernel_rfl) (by kernel_rfl) (by kernel_rfl) (fun _ _ _ h => h) (Or.inl ⟨by rfl, ?hy1816⟩) hH2 ?rest1816
  case hy1816 => (intro w ⟨_, _, _, _⟩; go_simp; try with_reducible rfl)
  try simp only [Act.put, List.setIfInBounds_toArray, List.set_cons_zero, List.set_cons_succ]
  refine wpAnyH_ready (rs := [19]) (by kernel_rfl) (by simp) ?_
  refine AllReadyH.cons (o := { dst := none, op := Op.store 30 (Operand.tmp 26) (Operand.tmp 25), type := 0, pos := "order.go:51", after := #[{ on := 18, ground := Ground.data }, { on := 17, ground := Ground.data }, { on := 17, ground := Ground.chain }, { on := 0, ground := Ground.phase }, { on := 1, ground := Ground.phase }, { on := 2, ground := Ground.phase }, { on := 3, ground := Ground.phase }, { on := 4, ground := Ground.phase }, { on := 5, ground := Ground.phase }, { on := 6, ground := Ground.phase }, { on := 7, ground := Ground.phase }, { on := 8, ground := Ground.phase }, { on := 9, ground := Ground.phase }, { on := 10, ground := Ground.phase }, { on := 11, ground := Ground.phase }, { on := 12, ground := Ground.phase }, { on := 13, ground := Ground.phase }, { on := 14, ground := Ground.phase }, { on := 15, ground := Ground.phase }, { on := 16, ground := Ground.phase }, { on := 17, ground := Ground.phase }], guard := none }) rfl (fun K hK => ?_) AllReadyH.nil
  go_simp
  refine hK.out _ _ ?_ (fun _ => ?_)
  ·simpa [World.cell?_setCell_far, hg'] using hH2
  clear hK K
  try simp only [Act.put, List.setIfInBounds_toArray, List.set_cons_zero, List.set_cons_succ]
  refine wpAnyH_done (by kernel_rfl) ?_ _
  go_wp2
  go_end0
  exact .inr ⟨r, hR, rfl, w2, a0b (a0i hb1) hb2, rfl⟩
end
end Go.Proofs.YthpgbienakcbeaaGreatDoor
