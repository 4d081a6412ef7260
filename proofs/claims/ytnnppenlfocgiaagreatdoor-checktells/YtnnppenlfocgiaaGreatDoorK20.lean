/- The document's Look: a local more; locals taken away. The document's Look: a block. Going over nodes, as the program's checker puts it: side by side; how many slots there are. The program's checker, in memory; the next number; a slot is set. The program's checker: a fault is thrown; a block begins. -/
import Derived.Test.YtnnppenlfocgiaaGreatDoorK14
import Derived.Test.YtnnppenlfocgiaaGreatDoorK08
import Derived.Test.YtnnppenlfocgiaaGreatDoorK12
namespace Go.Proofs.YtnnppenlfocgiaaGreatDoor
open Go.RowKit
open Go

theorem info58 : (Tryz.prog.info? 58).map (fun i => (i.zero, i.size, i.bytes)) = some (some (.agg #[.string ⟨#[]⟩, .int .i64 0, .bool false]), 3, 32) := by kernel_rfl
theorem flatL_len : ∀ ls : List Ld, (flatL ls).length = ls.length * 3
  | [] => rfl
  | x :: l => by
    show (trioL x ++ flatL l).length = _
    rw [List.length_append, flatL_len l]
    simp [trioL]
    omega
theorem flatL_take : ∀ (ls : List Ld) (m : Nat), (flatL ls).take (m * 3) = flatL (ls.take m)
  | [], m => by simp [flatL]
  | x :: l, 0 => by simp [flatL]
  | x :: l, m + 1 => by
    show (trioL x ++ flatL l).take _ = trioL x ++ flatL (l.take m)
    rw [← flatL_take l m, List.take_append]
    have e1 : (trioL x).length = 3 := rfl
    rw [e1, List.take_of_length_le (by rw [e1]; omega), show (m + 1) * 3 - 3 = m * 3 by omega]
theorem flatL_snoc (ls : List Ld) (x : Ld) : flatL (ls ++ [x]) = flatL ls ++ trioL x := by simp [flatL]
/-- Another row of locals is put in the Look's cell. -/
theorem Lo.locals {w0 : World} {B : Nat} {u : Nd} {ub : Option Addr} {uc : Nat} {sl : List Int} {ls ls' : List Ld} {c a : Int} {st : Bool} {V w3 : World} {sb lb lb' : Option Addr} {sc lc lc' : Nat}
    (h1 : V.heap[B]? = some (lkb u ub uc sb sl.length sc lb ls.length lc c a st)) (h2 : V.ownsRow w0.heap.size 3 1 (.slice sb sl.length sc) sl.length (sl.map iv))
    (h4 : ∀ q, Value.ownBlock (.slice sb sl.length sc) = some q → w0.heap.size ≤ q ∧ q ≠ B) (h5 : ∀ q, Value.ownBlock (.slice lb ls.length lc) = some q → w0.heap.size ≤ q ∧ q ≠ B ∧ Value.ownBlock (.slice sb sl.length sc) ≠ some q)
    (h6 : Below w0.heap.size w0 V) (h7 : w0.heap.size ≤ B) (hown : w3.ownsRow w0.heap.size 58 3 (.slice lb' ls'.length lc') ls'.length (flatL ls')) (hgrow : V.grownBy w3 (Value.ownBlock (.slice lb ls.length lc)))
    (hat : ∀ q, Value.ownBlock (.slice lb' ls'.length lc') = some q → Value.ownBlock (.slice lb ls.length lc) = some q ∨ q = V.heap.size) :
    Lo w0 B u ub uc sl ls' c a st (w3.setCell ⟨B, 5, none⟩ (.slice lb' ls'.length lc')) ∧ LK B V (w3.setCell ⟨B, 5, none⟩ (.slice lb' ls'.length lc')) := by
  have hBV := block_lt h1
  have hsz := h6.size
  have hneB : some B ≠ Value.ownBlock (.slice lb ls.length lc) := fun e => (h5 B e.symm).2.1 rfl
  have p1 := (hgrow.block _ hBV hneB).trans h1
  have hb5 := set_block (i := 5) (.slice lb' ls'.length lc') p1
  have hq : ∀ q, Value.ownBlock (.slice lb' ls'.length lc') = some q → w0.heap.size ≤ q ∧ q ≠ B ∧ Value.ownBlock (.slice sb sl.length sc) ≠ some q := fun q e => by
    rcases hat q e with e2 | e2
    · exact h5 q e2
    · subst e2
      exact ⟨hsz, by omega, fun e3 => by have := own_block_lt h2 e3; omega⟩
  refine ⟨⟨⟨sb, sc, lb', lc', hb5, ?_, ?_, h4, hq⟩, ?_, h7⟩, ?_⟩
  · refine own_keepT h2 (fun q e hlt => (set1_other _ _ (h4 q e).2).trans (hgrow.block q hlt (fun e4 => (h5 q e4.symm).2.2 e)))
  · exact own_keepT hown (fun q e _ => set1_other _ _ (hq q e).2.1)
  · exact (((Keeps.of_below (S := no) h6).then (Keeps.grown hgrow) (fun q hq e => by have := (h5 q e.symm).1; omega)).set B 5 _ (fun h => by omega)).below (Nat.le_refl _) (fun _ _ => id)
  · intro t o ha ho
    have hto : some t ≠ Value.ownBlock (.slice lb ls.length lc) := fun e => (ha.2 _ _ _ _ _ _ _ _ _ h1).2 e.symm
    refine ⟨(set1_other _ _ ha.1).trans ((hgrow.block t (block_lt ho) hto).trans ho), ha.1, fun v0 v1 v2 v3 v4 v5 v6 v7 v8 hv => ?_⟩
    have hv' := hb5.symm.trans hv
    have ev : Value.slice sb sl.length sc = v4 ∧ Value.slice lb' ls'.length lc' = v5 := by
      simp at hv'
      exact ⟨hv'.2.2.2.2.1, hv'.2.2.2.2.2.1⟩
    obtain ⟨rfl, rfl⟩ := ev
    refine ⟨(ha.2 _ _ _ _ _ _ _ _ _ h1).1, fun e => ?_⟩
    rcases hat t e with e2 | e2
    · exact hto e2.symm
    · have := block_lt ho
      omega
theorem grown_refl (V : World) (q : Option Nat) : V.grownBy V q := ⟨rfl, rfl, rfl, Nat.le_refl _, fun _ _ _ => rfl⟩
/-- Some locals are taken away. -/
theorem Lo.cut {w0 : World} {B : Nat} {u : Nd} {ub : Option Addr} {uc : Nat} {sl : List Int} {ls : List Ld} {c a : Int} {st : Bool} {W : World} (h : Lo w0 B u ub uc sl ls c a st W) {m : Nat} (hm : m ≤ ls.length) : ∃ lb lc, W.cell? ⟨B, 5, none⟩ = some (.slice lb ls.length lc) ∧ W.frozen? ⟨B, 5, none⟩ = false ∧ ls.length ≤ lc ∧ ((lb = none ∧ lc = 0) ∨ ∃ g, lb = some ⟨g, 0, none⟩) ∧
    Lo w0 B u ub uc sl (ls.take m) c a st (W.setCell ⟨B, 5, none⟩ (.slice lb m lc)) ∧ LK B W (W.setCell ⟨B, 5, none⟩ (.slice lb m lc)) := by
  obtain ⟨⟨sb, sc, lb, lc, h1, h2, h3, h4, h5⟩, h6, h7⟩ := h
  have hl : (ls.take m).length = m := by simp; omega
  have hown : W.ownsRow w0.heap.size 58 3 (.slice lb (ls.take m).length lc) (ls.take m).length (flatL (ls.take m)) := by
    refine ⟨flatL_len _, ?_⟩
    rcases h3.2 with ⟨e, h0⟩ | ⟨g, cap, cur, e, hbase, hg, hcap, hmax, hsz, ht⟩
    · simp only [Value.slice.injEq] at e
      obtain ⟨rfl, e2, rfl⟩ := e
      exact .inl ⟨by rw [hl]; congr 1; omega, by omega⟩
    · cases e
      refine .inr ⟨g, lc, cur, by rw [hl], hbase, hg, by omega, hmax, hsz, ?_⟩
      rw [hl, ← flatL_take, ← ht, List.take_take, Nat.min_eq_left (by omega)]
  have hob : Value.ownBlock (.slice lb (ls.take m).length lc) = Value.ownBlock (.slice lb ls.length lc) := by cases lb <;> rfl
  have key := Lo.locals h1 h2 h4 h5 h6 h7 hown (grown_refl W _) (fun q e => .inl (hob ▸ e))
  rw [hl] at key
  refine ⟨lb, lc, cell_block h1 rfl, frozen_block h1, ?_, ?_, key⟩
  · rcases h3.2 with ⟨e, h0⟩ | ⟨g, cap, cur, e, hbase, hg, hcap, hmax, hsz, ht⟩
    · simp only [Value.slice.injEq] at e; omega
    · cases e; exact hcap
  · rcases h3.2 with ⟨e, h0⟩ | ⟨g, cap, cur, e, hbase, hg, hcap, hmax, hsz, ht⟩
    · simp only [Value.slice.injEq] at e; exact .inl ⟨e.1, e.2.2⟩
    · cases e; exact .inr ⟨g, rfl⟩
end Go.Proofs.YtnnppenlfocgiaaGreatDoor
namespace Go.Proofs.YtnnppenlfocgiaaGreatDoor
open Go.RowKit
open Go

theorem sumL_tail (bl : List (List Lc)) : sumL bl.tail ≤ sumL bl := by
  cases bl with
  | nil => exact Nat.le_refl _
  | cons b r => rw [sumL_cons]; simp
theorem Lv.act {fs : List (List UInt8)} {k : Int} {t : List UInt8} {ks : List Nd} {a : Nat} {c c' : Cs} (h : actC fs k t ks a c = .ok c') (hc : Lv c) : Lv c' := by
  unfold actC at h
  split at h
  · exact Lv.declare h hc
  split at h
  · have := (nameC_ok h).2
    unfold Lv Cs.live at *
    rw [this]
    exact hc
  split at h
  · split at h
    · cases h; exact hc
    · cases h
  split at h
  · split at h
    · cases h
    · cases h; exact hc
  · cases h; exact hc
theorem vis_lv (fs : List (List UInt8)) (n : Nd) : ∀ (f : Bool) (c c' : Cs), visC fs f n c = .ok c' → Lv c → Lv c' := by
  refine nd_ind (m := fun n => ∀ (f : Bool) (c c' : Cs), visC fs f n c = .ok c' → Lv c → Lv c') (fun k t o ks ih f c c' h hc => ?_) n
  have hbe : ∀ c : Cs, Lv c → Lv c.begin := fun c h => by unfold Lv Cs.live Cs.begin at *; simpa [sumL_cons] using h
  have hcl : ∀ c : Cs, Lv c → Lv c.close := fun c h => by unfold Lv Cs.live Cs.close at *; exact Nat.le_trans (sumL_tail _) h
  have hgo : ∀ (k : Int) (t : List UInt8) (a : Nat) (l : List Nd), (∀ y ∈ l, y ∈ ks) → ∀ (i : Nat) (c c' : Cs), visC.go fs k t a i l c = .ok c' → Lv c → Lv c' := by
    intro k t a l
    induction l with
    | nil => intro _ i c c' h hc; rw [visC.go] at h; cases h; exact hc
    | cons x l ihl =>
      intro hm i c c' h hc
      rw [visC.go] at h
      obtain ⟨d, h1, h2⟩ := bind_ok h
      have hx := ih x (hm x (by simp))
      have h3 := ihl (fun y hy => hm y (by simp [hy])) _ d c' h2
      split at h1
      · obtain ⟨e, h4, h5⟩ := bind_ok h1
        obtain ⟨g, h6, rfl⟩ := map_ok h5
        exact h3 (hcl _ (hx _ _ _ h6 (Lv.declare h4 (hbe _ hc))))
      · exact h3 (hx _ _ _ h1 hc)
  rw [visC] at h
  split at h
  · split at h
    · exact hgo _ _ _ ks (fun _ h => h) _ _ _ h hc
    · obtain ⟨d, h1, rfl⟩ := map_ok h
      exact hcl _ (hgo _ _ _ ks (fun _ h => h) _ _ _ h1 (hbe c hc))
  · obtain ⟨d, h1, h2⟩ := bind_ok h
    have h3 := hgo _ _ _ ks (fun _ h => h) _ _ _ h1 hc
    split at h2
    · cases h2; exact h3
    · exact Lv.act h2 h3
/-- What going over a block leaves. -/
structure BQ (w0 : World) (B : Nat) (u : Nd) (ub : Option Addr) (uc : Nat) (ls : List Ld) (c a : Int) (s0 m : Nat) (R : CR) (W : World) (e : Ending) (W' : World) : Prop where
  e : e = .returned (.tuple #[])
  k : LK B W W'
  r : (∃ sl' bl', R = .ok ⟨sl', bl'⟩ ∧ s0 < sl'.length ∧ sl'.length ≤ s0 + m ∧ Lo w0 B u ub uc sl' ls c a false W') ∨ (∃ cd at_ sl' ls', R = .error (cd, at_) ∧ s0 < sl'.length ∧ sl'.length ≤ s0 + m ∧ ls'.length = ls.length ∧ Lo w0 B u ub uc sl' ls' cd (at_ : Nat) true W')
/-- What going over a statement leaves. -/
structure SQ (w0 : World) (B : Nat) (u : Nd) (ub : Option Addr) (uc : Nat) (had : Nat) (c a : Int) (s0 m : Nat) (R : CR) (W : World) (e : Ending) (W' : World) : Prop where
  e : e = .returned (.tuple #[])
  k : LK B W W'
  r : (∃ sl' bl', R = .ok ⟨sl', bl'⟩ ∧ s0 < sl'.length ∧ sl'.length ≤ s0 + m ∧ Lo w0 B u ub uc sl' (flatD bl') c a false W') ∨ (∃ cd at_ sl' ls', R = .error (cd, at_) ∧ s0 < sl'.length ∧ sl'.length ≤ s0 + m ∧ had ≤ ls'.length ∧ Lo w0 B u ub uc sl' ls' cd (at_ : Nat) true W')
def SC (n : Nd) : Prop := ∀ (w0 : World) (B : Nat) (u : Nd) (ub : Option Addr) (uc : Nat) (sl : List Int) (h : List Lc) (r : List (List Lc)) (c a : Int) (S : Nat → Prop) (b : Option Addr) (cap : Nat) (W : World), Lo w0 B u ub uc sl (flatD (h :: r)) c a false W → KA S W ub uc u.kids → NdV S W n (ndv n b cap) → SA S B W → sl.length + manyN n ≤ 100000 → r.length + manyN n ≤ 100000 → sumL (h :: r) ≤ 30 → u.kids.length ≤ 100000 → NB (h :: r) →
  Calls Tryz.prog 35 #[.pointer (some ⟨B, 0, none⟩), ndv n b cap, .int .i64 ((r.length + 1 : Nat) : Int)] W (SQ w0 B u ub uc (flatD (h :: r)).length c a sl.length (manyN n) (visC (u.kids.map Nd.t) false n ⟨sl, h :: r⟩) W)
def BC (n : Nd) : Prop := ∀ (w0 : World) (B : Nat) (u : Nd) (ub : Option Addr) (uc : Nat) (sl : List Int) (h : List Lc) (r : List (List Lc)) (c a : Int) (S : Nat → Prop) (b : Option Addr) (cap : Nat) (W : World), Lo w0 B u ub uc sl (flatD (h :: r)) c a false W → KA S W ub uc u.kids → NdV S W n (ndv n b cap) → SA S B W → sl.length + manyN n ≤ 100000 → r.length + manyN n ≤ 100000 → sumL (h :: r) ≤ 30 → u.kids.length ≤ 100000 → NB (h :: r) →
  Calls Tryz.prog 20 #[.pointer (some ⟨B, 0, none⟩), ndv n b cap, .int .i64 ((r.length + 1 : Nat) : Int)] W (BQ w0 B u ub uc (flatD (h :: r)) c a sl.length (manyN n) (visC (u.kids.map Nd.t) true n ⟨sl, h :: r⟩) W)
/-- Between two statements. -/
def LI (w0 : World) (B : Nat) (u : Nd) (ub : Option Addr) (uc : Nat) (h : List Lc) (r : List (List Lc)) (c a : Int) (S : Nat → Prop) (n : Nd) (b : Option Addr) (cap : Nat) (W : World) (t M s0 had : Nat) (R : CR) (j : Nat) (wr : World) : Prop :=
  wr.heap[t]? = some (nbx n b cap) ∧ ApL B wr t ∧ LK B W wr ∧ SA S B wr ∧ KA S wr ub uc u.kids ∧ KA S wr b cap n.kids ∧
  ((∃ sl' m, visC.go (u.kids.map Nd.t) n.k n.t 0 j (n.kids.drop j) ⟨sl', (h ++ m) :: r⟩ = R ∧ s0 < sl'.length ∧ sl'.length + manyN.go (n.kids.drop j) ≤ M ∧ sumL ((h ++ m) :: r) ≤ 30 ∧ NB ((h ++ m) :: r) ∧ Lo w0 B u ub uc sl' (flatD ((h ++ m) :: r)) c a false wr) ∨ (∃ cd at_ sl' ls', R = .error (cd, at_) ∧ s0 < sl'.length ∧ sl'.length ≤ M ∧ had ≤ ls'.length ∧ Lo w0 B u ub uc sl' ls' cd (at_ : Nat) true wr))

set_option maxRecDepth 20000 in
set_option maxHeartbeats 2000000 in
theorem blk_of (t0 : List UInt8) (n0 : Int) (ks : List Nd) (ih : ∀ y ∈ ks, SC y) : BC ⟨4, t0, n0, ks⟩ := by
  intro w0 B u ub uc sl h r c a S b cap W hLo hKu hN hSA hM hD hbl hul hNB
  have hKn := KA.of hN
  have hd : visC (u.kids.map Nd.t) true ⟨4, t0, n0, ks⟩ ⟨sl, h :: r⟩ = visC.go (u.kids.map Nd.t) 4 t0 0 0 ks ⟨sl ++ [-1], h :: r⟩ := by
    rw [visC, if_pos rfl]
    rfl
  have hms : manyN ⟨4, t0, n0, ks⟩ = manyN.go ks + 1 := rfl
  rw [hd]
  obtain ⟨R, hR⟩ : ∃ R, visC.go (u.kids.map Nd.t) 4 t0 0 0 ks ⟨sl ++ [-1], h :: r⟩ = R := ⟨_, rfl⟩
  obtain ⟨M, hMd⟩ : ∃ M, manyN ⟨4, t0, n0, ks⟩ = M := ⟨_, rfl⟩
  rw [hR, hMd]
  rw [hMd] at hM hD hms
  obtain ⟨hm1, hm2⟩ : M ≤ manyN.go ks + 1 ∧ manyN.go ks + 1 ≤ M := by omega
  clear hms
  obtain ⟨s0, hs0⟩ : ∃ s0, sl.length = s0 := ⟨_, rfl⟩
  obtain ⟨had, hhad⟩ : ∃ had, (flatD (h :: r)).length = had := ⟨_, rfl⟩
  have hb0 := ext_alloc (Below.refl W.heap.size W) (nbx ⟨4, t0, n0, ks⟩ b cap)
  have g0 := alloc_new W (nbx ⟨4, t0, n0, ks⟩ b cap)
  have ha0 := (hLo.ap (Nat.le_refl _)).below hLo.lt hb0
  have hlk0 := LK.below hLo.lt hb0
  have hLo1 := hLo.on hb0
  have hnum := fun V (h' : Lo w0 B u ub uc sl (flatD (h :: r)) c a false V) => number_any w0 B u ub uc sl (flatD (h :: r)) c a false V h' (by omega)
  have hall := many_len ks
  obtain ⟨lb, lc, c5, _, _, _, _⟩ := hLo1.cut (m := 0) (Nat.zero_le _)
  rw [hhad] at c5
  obtain ⟨t, ht⟩ : ∃ t, W.heap.size = t := ⟨_, rfl⟩
  rw [ht] at g0 ha0
  rw [hs0] at hnum hM ⊢
  obtain ⟨D, hDd⟩ : ∃ D, r.length + 1 = D := ⟨_, rfl⟩
  rw [hDd]
  replace hDd : Hid _ := hDd
  replace hhad : Hid _ := hhad
  replace hR : Hid _ := hR
  replace ih : Hid (∀ y ∈ ks, SC y) := ih
  go_enter Tryz.func20, Tryz.ntmps20
  go_wp2_with (go_at_call 10; refine (hnum _ hLo1).mono ?_; rintro e w1 ⟨rfl, hL1, hk1⟩)
  clear hnum hLo1 hLo hN
  have hSA1 := (hSA.on (hlk0.trans hk1))
  have hI : LI w0 B u ub uc h r c a S ⟨4, t0, n0, ks⟩ b cap W t (s0 + M) s0 had R 0 w1 := by
    obtain ⟨q1, q2⟩ := hk1 t _ ha0 g0
    refine ⟨q1, q2, hlk0.trans hk1, hSA1.1, hKu.lk hSA (hlk0.trans hk1), hKn.lk hSA (hlk0.trans hk1), .inl ⟨sl ++ [-1], [], ?_, by simp; omega, by simp; omega, ?_, ?_, ?_⟩⟩
    all_goals rw [List.append_nil]
    · exact hR.out
    · exact hbl
    · exact hNB
    · exact hL1
  clear hSA1 hL1 hk1 ha0 g0 hb0 hlk0 hKu hKn hSA c5
  go_loopw [7] (fun ix wr => ∃ j : Nat, j ≤ ks.length ∧ ix = .int .i64 (j : Nat) ∧ LI w0 B u ub uc h r c a S ⟨4, t0, n0, ks⟩ b cap W t (s0 + M) s0 had R j wr) (fun ix _ => ks.length - (intOf ix).toNat)
  case atStart => exact ⟨0, Nat.zero_le _, rfl, hI⟩
  case round =>
    obtain ⟨j, hj, rfl, g, ha, hlk, hS1, hKu, hKn, hst⟩ := hrel
    clear hI
    simp only at hKn hst
    obtain ⟨q0, q1, q2, q3, _, _, _, _⟩ := in4 g
    simp only at q0 q1 q2 q3
    rcases hst with ⟨sl', m, hgo, hs1, hs2, hlv, hnb, hLo⟩ | ⟨cd, at_, sl', ls', hRe, hs1, hs2, hle, hLo⟩
    · obtain ⟨c8, _, _, _, _, _⟩ := hLo.cells
      by_cases hlt : j < ks.length
      · have hlt' : (j : Int) < (ks.length : Int) := by omega
        obtain ⟨y, hy⟩ : ∃ y, ks[j]? = some y := ⟨_, List.getElem?_eq_getElem hlt⟩
        obtain ⟨g', off, b', cap', rfl, v0, v1, v2, v3, hyV⟩ := KA.at hKn hy
        have hdr : ks.drop j = y :: ks.drop (j + 1) := by rw [List.drop_eq_getElem_cons hlt]; congr 1; exact (List.getElem?_eq_some_iff.1 hy).2
        have hmk : manyN y ≤ manyN.go ks := by
          have := congrArg manyN.go (List.take_append_drop j ks)
          rw [many_app, hdr] at this
          simp only [manyN.go] at this
          omega
        have hcall := ih.out y (List.mem_of_getElem? hy) w0 B u ub uc sl' (h ++ m) r c a S b' cap' wr hLo hKu hyV hS1 (by rw [hdr] at hs2; simp only [manyN.go] at hs2; omega) (by omega) hlv hul hnb
        rw [hDd.out] at hcall
        replace hgo : Hid _ := hgo
        replace hs2 : Hid _ := hs2
        replace hdr : Hid (ks.drop j = y :: ks.drop (j + 1)) := hdr
        clear hy
        go_wp2_with (go_at_call 35; refine hcall.mono ?_; rintro e w2 ⟨rfl, hk2, hr2⟩)
        go_roundw
        case rel =>
          obtain ⟨g2, ha2⟩ := hk2 t _ ha g
          refine ⟨j + 1, by omega, by go_num, g2, ha2, hlk.trans hk2, (hS1.on hk2).1, hKu.lk hS1 hk2, hKn.lk hS1 hk2, ?_⟩
          have hgo' := hgo.out
          have hs2' := hs2.out
          rw [hdr.out] at hgo' hs2'
          simp only [manyN.go] at hs2'
          rw [visC.go, if_neg (by omega)] at hgo'
          rcases hr2 with ⟨sl2, bl2, e2, p1, p2, p3⟩ | ⟨cd, at_, sl2, ls2, e2, p1, p2, p4, p3⟩
          · obtain ⟨m2, hm2⟩ := vis_pre _ _ _ _ _ e2 (h ++ m) r rfl
            have hlv2 := vis_lv _ _ _ _ _ e2 hlv
            have hnb2 := (vis_keep _ _ _ _ _ e2).nb hnb
            rw [e2] at hgo'
            simp only at hm2
            subst hm2
            rw [List.append_assoc] at hgo' p3 hlv2 hnb2
            exact .inl ⟨sl2, m ++ m2, hgo', by omega, by simp only; omega, hlv2, hnb2, p3⟩
          · rw [e2] at hgo'
            refine .inr ⟨cd, at_, sl2, ls2, hgo'.symm, by omega, by omega, ?_, p3⟩
            have := hhad.out
            rw [flatD_len, sumL_cons] at this p4
            simp at p4
            omega
        case measure => simp [intOf]; omega
      · have hlt' : ¬ (j : Int) < (ks.length : Int) := by omega
        have hRo : R = .ok ⟨sl', (h ++ m) :: r⟩ := by
          rw [← hgo, List.drop_eq_nil_of_le (by omega), visC.go]
        subst hRo
        have hle : had ≤ (flatD ((h ++ m) :: r)).length := by
          have := hhad.out
          rw [flatD_len, sumL_cons] at this ⊢
          simp
          omega
        obtain ⟨lb, lc, c5, f5, hlc, hsh, hcut, hkc⟩ := hLo.cut hle
        have hc1 : (had : Int) ≤ (lc : Int) := by omega
        have hc0 : (0 : Int) ≤ (had : Int) := by omega
        obtain ⟨LL, hLL⟩ : ∃ LL, (flatD ((h ++ m) :: r)).length = LL := ⟨_, rfl⟩
        rw [hLL] at c5
        replace hLL : Hid _ := hLL
        clear hgo
        have fin : Hid (BQ w0 B u ub uc (flatD (h :: r)) c a s0 M (.ok ⟨sl', (h ++ m) :: r⟩) W (.returned (.tuple #[])) (wr.setCell ⟨B, 5, none⟩ (.slice lb had lc))) := by
          refine ⟨rfl, hlk.trans hkc, .inl ⟨sl', _, rfl, by omega, by omega, ?_⟩⟩
          have e : (flatD ((h ++ m) :: r)).take had = flatD (h :: r) := by rw [← hhad.out]; exact flatD_take
          rw [e] at hcut
          exact hcut
        clear hcut hkc
        rcases hsh with ⟨rfl, rfl⟩ | ⟨gl, rfl⟩
        · have e0 : had = 0 := by omega
          subst e0
          go_wp2
          go_end0
          exact fin.out
        · go_wp2
          go_end0
          exact fin.out
    · obtain ⟨c8, _, _, _, _, _⟩ := hLo.cells
      subst hRe
      obtain ⟨lb, lc, c5, f5, hlc, hsh, hcut, hkc⟩ := hLo.cut hle
      have hc1 : (had : Int) ≤ (lc : Int) := by omega
      have hc0 : (0 : Int) ≤ (had : Int) := by omega
      obtain ⟨LL, hLL⟩ : ∃ LL, ls'.length = LL := ⟨_, rfl⟩
      rw [hLL] at c5
      have fin : Hid (BQ w0 B u ub uc (flatD (h :: r)) c a s0 M (.error (cd, at_)) W (.returned (.tuple #[])) (wr.setCell ⟨B, 5, none⟩ (.slice lb had lc))) := by
        refine ⟨rfl, hlk.trans hkc, .inr ⟨cd, at_, sl', _, rfl, by omega, by omega, ?_, hcut⟩⟩
        have := hhad.out
        simp
        omega
      replace hLL : Hid _ := hLL
      clear hcut hkc
      rcases hsh with ⟨rfl, rfl⟩ | ⟨gl, rfl⟩
      · have e0 : had = 0 := by omega
        subst e0
        by_cases hlt : j < ks.length
        · have hlt' : (j : Int) < (ks.length : Int) := by omega
          go_wp2
          go_end0
          exact fin.out
        · have hlt' : ¬ (j : Int) < (ks.length : Int) := by omega
          go_wp2
          go_end0
          exact fin.out
      · by_cases hlt : j < ks.length
        · have hlt' : (j : Int) < (ks.length : Int) := by omega
          go_wp2
          go_end0
          exact fin.out
        · have hlt' : ¬ (j : Int) < (ks.length : Int) := by omega
          go_wp2
          go_end0
          exact fin.out
end Go.Proofs.YtnnppenlfocgiaaGreatDoor
namespace Go.Proofs.YtnnppenlfocgiaaGreatDoor
open Go

/-- Nodes that stand side by side. -/
def allC (fs : List (List UInt8)) : List Nd → Cs → CR
  | [], c => .ok c
  | x :: l, c => (visC fs false x c).bind (allC fs l)
theorem all_go (fs : List (List UInt8)) (k : Int) (t : List UInt8) (a : Nat) (hk : k ≠ 10) : ∀ (l : List Nd) (i : Nat) (c : Cs), visC.go fs k t a i l c = allC fs l c
  | [], i, c => by rw [visC.go, allC]
  | x :: l, i, c => by
    rw [visC.go, allC, if_neg (fun h => hk h.1)]
    congr 1
    funext d
    exact all_go fs k t a hk l (i + 1) d
theorem vis_else (fs : List (List UInt8)) (k : Int) (t : List UInt8) (o : Int) (ks : List Nd) (c : Cs) (h4 : k ≠ 4) (h10 : k ≠ 10) : visC fs false ⟨k, t, o, ks⟩ c = (allC fs ks c.enter).bind (actC fs k t ks c.sl.length) := by
  rw [visC, if_neg h4, all_go fs k t _ h10]
  congr 1
  funext d
  rw [if_neg h10]
theorem bind_okC (x : CR) : x.bind (fun c => .ok c) = x := by cases x <;> rfl
theorem vis_for (fs : List (List UInt8)) (t : List UInt8) (o : Int) (x y z : Nd) (c : Cs) : visC fs false ⟨10, t, o, [x, y, z]⟩ c = (allC fs [x, y] c.enter).bind fun d => (declareC t true c.sl.length d.begin).bind fun e => (visC fs true z e).map Cs.close := by
  rw [visC, if_neg (by omega)]
  simp only [if_true]
  rw [bind_okC, visC.go, if_neg (by omega)]
  rw [allC]
  cases visC fs false x c.enter with
  | error e => rfl
  | ok d =>
    simp only [Except.bind]
    rw [visC.go, if_neg (by omega), allC]
    cases visC fs false y d with
    | error e => rfl
    | ok d =>
      simp only [Except.bind]
      rw [visC.go, if_pos (by omega), allC]
      simp only
      cases declareC t true c.sl.length d.begin with
      | error e => rfl
      | ok d =>
        show ((visC fs true z d).map Cs.close).bind _ = (visC fs true z d).map Cs.close
        cases visC fs true z d with
        | error e => rfl
        | ok d =>
          show visC.go fs 10 t c.sl.length (0 + 1 + 1 + 1) [] d.close = .ok d.close
          rw [visC.go]
theorem vis_in (fs : List (List UInt8)) (t : List UInt8) (o : Int) (ks : List Nd) (c : Cs) : visC fs true ⟨4, t, o, ks⟩ c = allC fs ks c.enter := by
  rw [visC, if_pos rfl]
  simp only [if_true]
  exact all_go fs 4 t 0 (by omega) ks 0 _
theorem body_all (fs : List (List UInt8)) (z : Nd) : ∀ (ps : List Nd) (c : Cs), bodyC fs (ps ++ [z]) c = (allC fs ps c).bind (visC fs true z)
  | [], c => by rw [allC]; rfl
  | [x], c => by
    show bodyC fs (x :: z :: []) c = _
    rw [bodyC, allC]
    cases visC fs false x c with
    | error e => rfl
    | ok d => simp only [Except.bind]; rw [bodyC, allC]
  | x :: y :: l, c => by
    show bodyC fs (x :: y :: (l ++ [z])) c = _
    rw [bodyC, allC]
    cases visC fs false x c with
    | error e => rfl
    | ok d => simp only [Except.bind]; exact body_all fs z (y :: l) d
/-- How many slots there are behind a node. -/
theorem act_len {fs : List (List UInt8)} {k : Int} {t : List UInt8} {ks : List Nd} {a : Nat} {c c' : Cs} (h : actC fs k t ks a c = .ok c') : c'.sl.length = c.sl.length := (actC_ok h).1
theorem vis_len (fs : List (List UInt8)) (n : Nd) : ∀ (f : Bool) (c c' : Cs), visC fs f n c = .ok c' → c.sl.length < c'.sl.length ∧ c'.sl.length ≤ c.sl.length + manyN n := by
  refine nd_ind (m := fun n => ∀ (f : Bool) (c c' : Cs), visC fs f n c = .ok c' → c.sl.length < c'.sl.length ∧ c'.sl.length ≤ c.sl.length + manyN n) (fun k t o ks ih f c c' h => ?_) n
  have hgo : ∀ (k : Int) (t : List UInt8) (a : Nat) (l : List Nd), (∀ y ∈ l, y ∈ ks) → ∀ (i : Nat) (c c' : Cs), visC.go fs k t a i l c = .ok c' → c.sl.length ≤ c'.sl.length ∧ c'.sl.length ≤ c.sl.length + manyN.go l := by
    intro k t a l
    induction l with
    | nil => intro _ i c c' h; rw [visC.go] at h; cases h; exact ⟨Nat.le_refl _, Nat.le_add_right _ _⟩
    | cons x l ihl =>
      intro hm i c c' h
      rw [visC.go] at h
      obtain ⟨d, h1, h2⟩ := bind_ok h
      have hx := ih x (hm x (by simp))
      have h3 := ihl (fun y hy => hm y (by simp [hy])) _ d c' h2
      simp only [manyN.go]
      split at h1
      · obtain ⟨e, h4, h5⟩ := bind_ok h1
        obtain ⟨g, h6, rfl⟩ := map_ok h5
        have h7 := (declareC_ok h4).1
        have h8 := hx _ _ _ h6
        simp only [Cs.begin, Cs.close] at *
        omega
      · have h8 := hx _ _ _ h1
        omega
  have hms : manyN ⟨k, t, o, ks⟩ = manyN.go ks + 1 := rfl
  rw [hms]
  have hen : ∀ c : Cs, c.enter.sl.length = c.sl.length + 1 := fun c => by simp [Cs.enter]
  have hbe : ∀ c : Cs, c.begin.sl.length = c.sl.length := fun c => rfl
  rw [visC] at h
  split at h
  · split at h
    · have := hgo _ _ _ ks (fun _ h => h) _ _ _ h
      rw [hen] at this
      omega
    · obtain ⟨d, h1, rfl⟩ := map_ok h
      have := hgo _ _ _ ks (fun _ h => h) _ _ _ h1
      rw [hen, hbe] at this
      simp only [Cs.close]
      omega
  · obtain ⟨d, h1, h2⟩ := bind_ok h
    have := hgo _ _ _ ks (fun _ h => h) _ _ _ h1
    rw [hen] at this
    split at h2
    · cases h2; omega
    · have := act_len h2
      omega
theorem all_len (fs : List (List UInt8)) : ∀ (l : List Nd) (c c' : Cs), allC fs l c = .ok c' → c.sl.length ≤ c'.sl.length ∧ c'.sl.length ≤ c.sl.length + manyN.go l
  | [], c, c', h => by rw [allC] at h; cases h; exact ⟨Nat.le_refl _, Nat.le_add_right _ _⟩
  | x :: l, c, c', h => by
    rw [allC] at h
    obtain ⟨d, h1, h2⟩ := bind_ok h
    have h3 := vis_len fs x _ _ _ h1
    have h4 := all_len fs l _ _ h2
    simp only [manyN.go]
    omega
theorem all_keep (fs : List (List UInt8)) : ∀ (l : List Nd) (c c' : Cs), allC fs l c = .ok c' → Kp c c'
  | [], c, c', h => by rw [allC] at h; cases h; exact Kp.refl _
  | x :: l, c, c', h => by
    rw [allC] at h
    obtain ⟨d, h1, h2⟩ := bind_ok h
    exact (vis_keep fs x _ _ _ h1).trans (all_keep fs l _ _ h2)
theorem all_lv (fs : List (List UInt8)) : ∀ (l : List Nd) (c c' : Cs), allC fs l c = .ok c' → Lv c → Lv c'
  | [], c, c', h, hc => by rw [allC] at h; cases h; exact hc
  | x :: l, c, c', h, hc => by
    rw [allC] at h
    obtain ⟨d, h1, h2⟩ := bind_ok h
    exact all_lv fs l _ _ h2 (vis_lv fs x _ _ _ h1 hc)
end Go.Proofs.YtnnppenlfocgiaaGreatDoor
namespace Go.Proofs.YtnnppenlfocgiaaGreatDoor
open Go.RowKit
open Go

/-- A local of a block, as its map has it. -/
abbrev lcv (i : Nat) (fx : Bool) : Value := .agg #[.int .i64 (i : Nat), .bool fx]
def kvB (base : Nat) (b : List Lc) : List (List UInt8 × Value) := b.mapIdx fun j x => (x.nm, lcv (base + j) x.fx)
/-- The blocks' maps, the innermost first. -/
def MapsAt (W : World) : List Nat → List (List Lc) → Prop
  | [], [] => True
  | q :: ms, b :: r => W.heap[q]? = some (mapObj sk (kvB (sumL r) b)) ∧ MapsAt W ms r
  | _, _ => False
theorem MapsAt.len {W : World} : ∀ {ms : List Nat} {bl : List (List Lc)}, MapsAt W ms bl → ms.length = bl.length
  | [], [], _ => rfl
  | _ :: ms, _ :: r, h => by rw [List.length_cons, List.length_cons, MapsAt.len h.2]
  | [], _ :: _, h => h.elim
  | _ :: _, [], h => h.elim
theorem MapsAt.keep {W W' : World} : ∀ {ms : List Nat} {bl : List (List Lc)}, MapsAt W ms bl → (∀ m ∈ ms, W'.heap[m]? = W.heap[m]?) → MapsAt W' ms bl
  | [], [], _, _ => trivial
  | q :: ms, _ :: r, h, k => ⟨(k q (by simp)).trans h.1, MapsAt.keep h.2 fun m hm => k m (by simp [hm])⟩
  | [], _ :: _, h, _ => h.elim
  | _ :: _, [], h, _ => h.elim
theorem MapsAt.lt {W : World} : ∀ {ms : List Nat} {bl : List (List Lc)}, MapsAt W ms bl → ∀ m ∈ ms, m < W.heap.size
  | [], [], _, m, hm => by simp at hm
  | q :: ms, _ :: r, h, m, hm => by
    rcases List.mem_cons.1 hm with rfl | hm
    · exact block_lt h.1
    · exact MapsAt.lt h.2 m hm
  | [], _ :: _, h, _, _ => h.elim
  | _ :: _, [], h, _, _ => h.elim
abbrev mp (q : Nat) : Value := .map (some q)
/-- By name: how many functions are ahead of the first one that has it. -/
def funsKV (fs : List (List UInt8)) : Nat → List (List UInt8) → List (List UInt8 × Value) → List (List UInt8 × Value)
  | _, [], kv => kv
  | i, x :: l, kv => funsKV fs (i + 1) l (if (kv.lookup x).isSome then kv else kv ++ [(x, .int .i64 (i : Nat))])
abbrev ckb (u : Nd) (ub : Option Addr) (uc : Nat) (fm : Nat) (sb : Option Addr) (sn sc : Nat) (bb : Option Addr) (bn bc : Nat) (lv : Nat) : Obj := .cells #[.int .i64 u.k, sk u.t, .int .i64 u.n, .slice ub u.kids.length uc, .map (some fm), .slice sb sn sc, .slice bb bn bc, .int .i64 (lv : Nat)] 66
/-- The checker in block B; O: the blocks that are its own. -/
structure Ck (w0 : World) (B : Nat) (u : Nd) (ub : Option Addr) (uc : Nat) (fm : Nat) (O : Nat → Prop) (sl : List Int) (bl : List (List Lc)) (lv : Nat) (W : World) : Prop where
  box : ∃ sb sc bb bc ms, W.heap[B]? = some (ckb u ub uc fm sb sl.length sc bb bl.length bc lv) ∧ W.ownsRow w0.heap.size 3 1 (.slice sb sl.length sc) sl.length (sl.map iv) ∧ W.ownsRow w0.heap.size 125 1 (.slice bb bl.length bc) bl.length (ms.reverse.map mp) ∧ MapsAt W ms bl ∧ ms.Nodup ∧
    (∀ q, Value.ownBlock (.slice sb sl.length sc) = some q → O q ∧ q ≠ B ∧ q ∉ ms) ∧ (∀ q, Value.ownBlock (.slice bb bl.length bc) = some q → O q ∧ q ≠ B ∧ q ∉ ms ∧ Value.ownBlock (.slice sb sl.length sc) ≠ some q) ∧ (∀ m ∈ ms, O m ∧ m ≠ B)
  hB : O B
  hO : ∀ k, O k → w0.heap.size ≤ k ∧ k < W.heap.size
  hf : ∃ kv, kv = funsKV (u.kids.map Nd.t) 0 (u.kids.map Nd.t) [] ∧ W.heap[fm]? = some (mapObj sk kv)
  hn : ¬ O fm
  bl : Below w0.heap.size w0 W
/-- From one state of a checker to another one. -/
structure CK (O : Nat → Prop) (W : World) (O' : Nat → Prop) (W' : World) : Prop where
  k : Keeps O W W'
  o : ∀ k, O' k → O k ∨ W.heap.size ≤ k
theorem CK.trans {O O1 O2 : Nat → Prop} {W W1 W2 : World} (h : CK O W O1 W1) (k : CK O1 W1 O2 W2) : CK O W O2 W2 := by
  refine ⟨h.k.then k.k (fun j hj h1 => ?_), fun j hj => ?_⟩
  · rcases h.o j h1 with h2 | h2
    · exact h2
    · omega
  · rcases k.o j hj with h2 | h2
    · exact h.o j h2
    · exact .inr (Nat.le_trans h.k.size h2)
theorem below_keep {O : Nat → Prop} {w0 V W' : World} (hb : Below w0.heap.size w0 V) (hk : Keeps O V W') (hO : ∀ k, O k → w0.heap.size ≤ k) : Below w0.heap.size w0 W' :=
  ⟨hk.os.trans hb.os, hk.tape.trans hb.tape, hk.output.trans hb.output, Nat.le_trans hb.size hk.size, fun k hk' => (hk.block k (Nat.lt_of_lt_of_le hk' hb.size) (fun h => by have := hO k h; omega)).trans (hb.block k hk')⟩
theorem CK.below {O : Nat → Prop} {W W' : World} (hb : Below W.heap.size W W') : CK O W O W' := ⟨Keeps.of_below hb, fun _ h => .inl h⟩
theorem CK.refl (O : Nat → Prop) (W : World) : CK O W O W := ⟨Keeps.refl _ _, fun _ h => .inl h⟩
/-- A box apart from the checker's own. -/
theorem CK.box {O O' : Nat → Prop} {W W' : World} (h : CK O W O' W') {t : Nat} {o : Obj} (g : W.heap[t]? = some o) (hn : ¬ O t) : W'.heap[t]? = some o ∧ ¬ O' t := by
  refine ⟨h.k.box g hn, fun h1 => ?_⟩
  rcases h.o t h1 with h2 | h2
  · exact hn h2
  · have := block_lt g
    omega
theorem Ck.lt {w0 : World} {B : Nat} {u : Nd} {ub : Option Addr} {uc fm : Nat} {O : Nat → Prop} {sl : List Int} {bl : List (List Lc)} {lv : Nat} {W : World} (h : Ck w0 B u ub uc fm O sl bl lv W) : B < W.heap.size := (h.hO B h.hB).2
theorem Ck.on {w0 : World} {B : Nat} {u : Nd} {ub : Option Addr} {uc fm : Nat} {O : Nat → Prop} {sl : List Int} {bl : List (List Lc)} {lv : Nat} {W W' : World} (h : Ck w0 B u ub uc fm O sl bl lv W) (hb : Below W.heap.size W W') : Ck w0 B u ub uc fm O sl bl lv W' := by
  obtain ⟨⟨sb, sc, bb, bc, ms, h1, h2, h3, h4, h5, h6, h7, h8⟩, hB, hO, ⟨kv, hkv, hf⟩, hn, hbl⟩ := h
  exact ⟨⟨sb, sc, bb, bc, ms, block_below hb h1, own_belowT h2 hb, own_belowT h3 hb, h4.keep (fun m hm => hb.block m (hO m (h8 m hm).1).2), h5, h6, h7, h8⟩, hB, fun k hk => ⟨(hO k hk).1, Nat.lt_of_lt_of_le (hO k hk).2 hb.size⟩, ⟨kv, hkv, block_below hb hf⟩, hn, ext_trans hbl hb⟩
/-- The checker's cells. -/
theorem Ck.cells {w0 : World} {B : Nat} {u : Nd} {ub : Option Addr} {uc fm : Nat} {O : Nat → Prop} {sl : List Int} {bl : List (List Lc)} {lv : Nat} {W : World} (h : Ck w0 B u ub uc fm O sl bl lv W) : W.cell? ⟨B, 3, none⟩ = some (.slice ub u.kids.length uc) ∧ W.cell? ⟨B, 4, none⟩ = some (.map (some fm)) ∧ W.cell? ⟨B, 7, none⟩ = some (.int .i64 (lv : Nat)) ∧ W.frozen? ⟨B, 7, none⟩ = false := by
  obtain ⟨⟨sb, sc, bb, bc, ms, h1, _⟩, _⟩ := h
  exact ⟨cell_block h1 rfl, cell_block h1 rfl, cell_block h1 rfl, frozen_block h1⟩

set_option maxRecDepth 20000 in
set_option maxHeartbeats 2000000 in
/-- The next node's number. -/
theorem enter_any (w0 : World) (B : Nat) (u : Nd) (ub : Option Addr) (uc fm : Nat) (O : Nat → Prop) (sl : List Int) (bl : List (List Lc)) (lv : Nat) (W : World) (h : Ck w0 B u ub uc fm O sl bl lv W) (hlen : sl.length ≤ 100000) : Calls Tryz.prog 42 #[.pointer (some ⟨B, 0, none⟩)] W fun e W' => e = .returned (.int .i64 (sl.length : Nat)) ∧ ∃ O', Ck w0 B u ub uc fm O' (sl ++ [-1]) bl lv W' ∧ CK O W O' W' := by
  have hb := ext_alloc (Below.refl W.heap.size W) (.cells #[.int .i64 (-1)] 3)
  have gQ := alloc_new W (.cells #[.int .i64 (-1)] 3)
  have hCK := CK.below (O := O) hb
  have hlt0 := h.lt
  have hO0 := h.hO
  replace h := h.on hb
  obtain ⟨Q, hQ⟩ : ∃ Q, W.heap.size = Q := ⟨_, rfl⟩
  obtain ⟨V, hV⟩ : ∃ V, W.alloc (.cells #[.int .i64 (-1)] 3) = V := ⟨_, rfl⟩
  rw [hV] at h gQ hCK
  rw [hQ] at gQ
  obtain ⟨i0, hi0, hz0, hz1, hz2⟩ := info_parts info3
  obtain ⟨⟨sb, sc, bb, bc, ms, h1, h2, h3, h4, h5, h6, h7, h8⟩, hB, hO, ⟨kv, hkv, hf⟩, hn, hbl⟩ := h
  have c5 : W.cell? ⟨B, 5, none⟩ = some (.slice sb sl.length sc) := by
    have := cell_block (i := 5) h1 rfl
    rw [← hV] at this
    rw [World.cell?_alloc_past _ _ _ hlt0] at this
    exact this
  have d5 : V.cell? ⟨B, 5, none⟩ = some (.slice sb sl.length sc) := cell_block h1 rfl
  have f5 : V.frozen? ⟨B, 5, none⟩ = false := frozen_block h1
  have hneB : some B ≠ Value.ownBlock (.slice sb sl.length sc) := fun e => (h6 B e.symm).2.1 rfl
  have hnews : ∀ j x, [iv (-1)][j]? = some x → V.cell? ((⟨Q, 0, none⟩ : Addr).add j) = some x := fun j x hx => by
    match j, hx with
    | 0, hx => cases hx; simpa [Addr.add] using cell_block (i := 0) gQ rfl
    | j + 1, hx => simp at hx
  have hone : ∀ x ∈ [iv (-1)], x.oneCell' = true := fun x hx => by simp at hx; subst hx; rfl
  have h63 : sl.length + 1 ≤ maxLen := by unfold maxLen; omega
  have hby : (sl.length + 1) * 8 ≤ 140737488355328 := by omega
  have hsz := hbl.size
  replace hO0 : Hid _ := hO0
  replace hkv : Hid _ := hkv
  go_enter Tryz.func42, Tryz.ntmps42
  go_wp2_with (at_builtin; refine wpList_append_lies _ (by rfl) _ _ _ (by rfl) w0.heap.size 3 i0 _ 1 8 Tryz.underlying30 hi0 hz0 hz1 hz2 rfl (by omega) (.slice sb sl.length sc) sl.length _ (by rfl) h2 ⟨Q, 0, none⟩ 1 1 [iv (-1)] (by rfl) (by rfl) hnews hone (by omega) h63 hby hsz _ rfl ?_; intro g3 cap3 w3 hown3 hgrow hat hlt3; have p1 := (hgrow.block _ (block_lt h1) hneB).trans h1; have d5 : w3.cell? ⟨B, 5, none⟩ = some (.slice sb sl.length sc) := cell_block p1 rfl; have f5 : w3.frozen? ⟨B, 5, none⟩ = false := frozen_block p1)
  have hg3 : g3 ≠ B := by
    rcases hat with e | e
    · exact (h6 g3 e).2.1
    · have := block_lt h1
      omega
  have hg4 : w0.heap.size ≤ g3 := by
    rcases hat with e | e
    · exact (hO g3 (h6 g3 e).1).1
    · omega
  have hgO : O g3 ∨ V.heap.size ≤ g3 := by
    rcases hat with e | e
    · exact .inl (h6 g3 e).1
    · exact .inr (by omega)
  have hgm : g3 ∉ ms := fun e => by
    rcases hat with e2 | e2
    · exact (h6 g3 e2).2.2 e
    · have := (hO g3 (h8 g3 e).1).2
      omega
  have hkO : Keeps O V w3 := (Keeps.grown hgrow).mono (fun k _ e => (h6 k e.symm).1)
  have hk4 := hkO.set B 5 (.slice (some ⟨g3, 0, none⟩) (sl.length + 1) cap3) (fun _ => hB)
  have hb4 := set_block (i := 5) (.slice (some ⟨g3, 0, none⟩) (sl.length + 1) cap3) p1
  have hll : (sl ++ [-1]).length = sl.length + 1 := by simp
  have hss : (w3.setCell ⟨B, 5, none⟩ (.slice (some ⟨g3, 0, none⟩) (sl.length + 1) cap3)).heap.size = w3.heap.size := by simp
  go_ret
  refine ⟨rfl, fun k => O k ∨ k = g3, ⟨⟨some ⟨g3, 0, none⟩, cap3, bb, bc, ms, ?_, ?_, ?_, ?_, h5, ?_, ?_, ?_⟩, .inl hB, ?_, ⟨kv, hkv.out, ?_⟩, ?_, ?_⟩, hCK.trans ⟨hk4, ?_⟩⟩
  · rw [hll]
    exact hb4
  · rw [hll, List.map_append]
    exact own_keepT hown3 (fun q e _ => by simp [Value.ownBlock] at e; subst e; exact set1_other _ _ hg3)
  · refine own_keepT h3 (fun q e hq => ?_)
    obtain ⟨_, e2, _, e3⟩ := h7 q e
    exact (set1_other _ _ e2).trans (hgrow.block q hq (fun e4 => e3 e4.symm))
  · refine h4.keep (fun m hm => ?_)
    exact (set1_other _ _ (h8 m hm).2).trans (hgrow.block m (hO m (h8 m hm).1).2 (fun e4 => (h6 m e4.symm).2.2 hm))
  · rw [hll]
    intro q e
    simp [Value.ownBlock] at e
    subst e
    exact ⟨.inr rfl, hg3, hgm⟩
  · rw [hll]
    intro q e
    obtain ⟨e1, e2, e3, e4⟩ := h7 q e
    refine ⟨.inl e1, e2, e3, fun e5 => ?_⟩
    simp [Value.ownBlock] at e5
    subst e5
    rcases hat with e6 | e6
    · exact e4 e6
    · have := own_block_lt h3 e
      omega
  · exact fun m hm => ⟨.inl (h8 m hm).1, (h8 m hm).2⟩
  · intro k hk
    rw [hss]
    rcases hk with hk | rfl
    · exact ⟨(hO k hk).1, Nat.lt_of_lt_of_le (hO k hk).2 hgrow.size⟩
    · exact ⟨hg4, hlt3⟩
  · exact hk4.box hf hn
  · rintro (hk | rfl)
    · exact hn hk
    · rcases hat with e | e
      · exact hn (h6 _ e).1
      · have := block_lt hf
        omega
  · exact below_keep hbl hk4 (fun k h => (hO k h).1)
  · rintro k (hk | rfl)
    · exact .inl hk
    · exact hgO
/-- A slot is set. -/
theorem Ck.slot {w0 : World} {B : Nat} {u : Nd} {ub : Option Addr} {uc fm : Nat} {O : Nat → Prop} {sl : List Int} {bl : List (List Lc)} {lv : Nat} {W : World} (h : Ck w0 B u ub uc fm O sl bl lv W) {j : Nat} (hj : j < sl.length) : ∃ g sc, W.cell? ⟨B, 5, none⟩ = some (.slice (some ⟨g, 0, none⟩) sl.length sc) ∧ g ≠ B ∧ O g ∧ (∃ x, W.cell? ⟨g, j, none⟩ = some (.int .i64 x)) ∧ W.frozen? ⟨g, j, none⟩ = false ∧
    ∀ v, Ck w0 B u ub uc fm O (sl.set j v) bl lv (W.setCell ⟨g, j, none⟩ (iv v)) ∧ CK O W O (W.setCell ⟨g, j, none⟩ (iv v)) := by
  obtain ⟨⟨sb, sc, bb, bc, ms, h1, h2, h3, h4, h5, h6, h7, h8⟩, hB, hO, ⟨kv, hkv, hf⟩, hn, hbl⟩ := h
  obtain ⟨hl0, h2'⟩ := h2
  rcases h2' with ⟨e, h0⟩ | ⟨g, cap, cur, e, hbase, hg, hcap, hmax, hsz, ht⟩
  · omega
  cases e
  obtain ⟨hOg, hgB, hgm⟩ := h6 g rfl
  have hc : cur[j]? = some (iv sl[j]) := by
    have e1 : (cur.toList.take (sl.length * 1))[j]? = (sl.map iv)[j]? := by rw [ht]
    rw [List.getElem?_take_of_lt (by omega)] at e1
    simpa [hj] using e1
  refine ⟨g, sc, cell_block h1 rfl, hgB, hOg, ⟨sl[j], cell_block hg hc⟩, frozen_block hg, fun v => ?_⟩
  have hg2 := set_block (i := j) (iv v) hg
  have hoth : ∀ q, q ≠ g → (W.setCell ⟨g, j, none⟩ (iv v)).heap[q]? = W.heap[q]? := fun q hq => set1_other _ _ hq
  have hk : Keeps O W (W.setCell ⟨g, j, none⟩ (iv v)) := (Keeps.refl O W).set g j _ (fun _ => hOg)
  refine ⟨⟨⟨some ⟨g, 0, none⟩, sc, bb, bc, ms, ?_, ?_, ?_, ?_, h5, ?_, ?_, h8⟩, hB, ?_, ⟨kv, hkv, ?_⟩, hn, ?_⟩, hk, fun _ => .inl⟩
  · rw [List.length_set]
    exact (hoth B (Ne.symm hgB)).trans h1
  · rw [List.length_set]
    refine ⟨by simp, .inr ⟨g, sc, _, rfl, hbase, hg2, hcap, hmax, by simpa using hsz, ?_⟩⟩
    rw [Array.toList_setIfInBounds, List.take_set, ht, List.map_set]
  · exact own_keepT h3 (fun q e _ => hoth q (fun e2 => (h7 q e).2.2.2 (by rw [e2]; rfl)))
  · exact h4.keep (fun m hm => hoth m (fun e => hgm (e ▸ hm)))
  · rw [List.length_set]
    exact h6
  · rw [List.length_set]
    exact h7
  · intro k hk
    have : (W.setCell ⟨g, j, none⟩ (iv v)).heap.size = W.heap.size := by simp
    rw [this]
    exact hO k hk
  · exact hk.box hf hn
  · exact below_keep hbl hk (fun k h => (hO k h).1)
end Go.Proofs.YtnnppenlfocgiaaGreatDoor
namespace Go.Proofs.YtnnppenlfocgiaaGreatDoor
open Go.RowKit
open Go

/-- A fault. -/
abbrev flt (cd : Int) (a : Nat) : Value := .iface 27 (.agg #[.int .i64 cd, .int .i64 (a : Nat)])
set_option maxRecDepth 20000 in
set_option maxHeartbeats 1000000 in
theorem refuse_no (p : Value) (code : Int) (a : Value) (W : World) : Calls Tryz.prog 44 #[p, .bool false, .int .i64 code, a] W fun e W' => e = .returned (.tuple #[]) ∧ W' = W := by
  go_enter Tryz.func44, Tryz.ntmps44
  go_wp2
  go_end0
  exact ⟨rfl, rfl⟩
set_option maxRecDepth 20000 in
set_option maxHeartbeats 1000000 in
theorem refuse_yes (p : Value) (code : Int) (a : Nat) (W : World) : Calls Tryz.prog 44 #[p, .bool true, .int .i64 code, .int .i64 (a : Nat)] W fun e W' => e = .panicked (pan (flt code a)) ∧ W' = W := by
  go_enter Tryz.func44, Tryz.ntmps44
  go_wp2
  exact ⟨rfl, rfl, rfl⟩
/-- Both ways. -/
theorem refuse_any (p : Value) (wrong : Bool) (code : Int) (a : Nat) (W : World) : Calls Tryz.prog 44 #[p, .bool wrong, .int .i64 code, .int .i64 (a : Nat)] W fun e W' => W' = W ∧ ((wrong = true ∧ e = .panicked (pan (flt code a))) ∨ (wrong = false ∧ e = .returned (.tuple #[]))) := by
  cases wrong with
  | true => exact (refuse_yes p code a W).mono fun e W' ⟨h1, h2⟩ => ⟨h2, .inl ⟨rfl, h1⟩⟩
  | false => exact (refuse_no p code _ W).mono fun e W' ⟨h1, h2⟩ => ⟨h2, .inr ⟨rfl, h1⟩⟩
theorem info125 : (Tryz.prog.info? 125).map (fun i => (i.zero, i.size, i.bytes)) = some (some (.map none), 1, 8) := by kernel_rfl

set_option maxRecDepth 20000 in
set_option maxHeartbeats 2000000 in
/-- A block begins. -/
theorem begin_any (w0 : World) (B : Nat) (u : Nd) (ub : Option Addr) (uc fm : Nat) (O : Nat → Prop) (sl : List Int) (bl : List (List Lc)) (lv : Nat) (W : World) (h : Ck w0 B u ub uc fm O sl bl lv W) (hlen : bl.length ≤ 100000) : Calls Tryz.prog 65 #[.pointer (some ⟨B, 0, none⟩)] W fun e W' => e = .returned (.tuple #[]) ∧ ∃ O', Ck w0 B u ub uc fm O' sl ([] :: bl) lv W' ∧ CK O W O' W' := by
  have hbA := ext_alloc (Below.refl W.heap.size W) (.map #[] 0)
  have gM := alloc_new W (.map #[] 0)
  obtain ⟨Q, hQ⟩ : ∃ Q, W.heap.size = Q := ⟨_, rfl⟩
  rw [hQ] at gM
  have hb := ext_alloc hbA (.cells #[mp Q] 125)
  have gQ := alloc_new (W.alloc (.map #[] 0)) (.cells #[mp Q] 125)
  rw [World.size_alloc, hQ] at gQ
  replace gM := block_alloc (.cells #[mp Q] 125) gM
  have hCK := CK.below (O := O) hb
  have hlt0 := h.lt
  have hO0 := h.hO
  have hfm : fm < Q := by
    obtain ⟨_, _, hf⟩ := h.hf
    rw [← hQ]
    exact block_lt hf
  replace h := h.on hb
  obtain ⟨V, hV⟩ : ∃ V, (W.alloc (.map #[] 0)).alloc (.cells #[mp Q] 125) = V := ⟨_, rfl⟩
  have hVs : V.heap.size = Q + 2 := by rw [← hV, World.size_alloc, World.size_alloc, hQ]
  have hbV : Below W.heap.size W V := hV ▸ hb
  rw [hV] at h gQ gM hCK
  obtain ⟨i0, hi0, hz0, hz1, hz2⟩ := info_parts info125
  obtain ⟨⟨sb, sc, bb, bc, ms, h1, h2, h3, h4, h5, h6, h7, h8⟩, hB, hO, ⟨kv, hkv, hf⟩, hn, hbl⟩ := h
  have c6 : W.cell? ⟨B, 6, none⟩ = some (.slice bb bl.length bc) := by
    have := (hbV.block B hlt0).symm.trans h1
    exact cell_block this rfl
  have d6 : V.cell? ⟨B, 6, none⟩ = some (.slice bb bl.length bc) := cell_block h1 rfl
  have f6 : V.frozen? ⟨B, 6, none⟩ = false := frozen_block h1
  have hneB : some B ≠ Value.ownBlock (.slice bb bl.length bc) := fun e => (h7 B e.symm).2.1 rfl
  have hnews : ∀ j x, [mp Q][j]? = some x → V.cell? ((⟨Q + 1, 0, none⟩ : Addr).add j) = some x := fun j x hx => by
    match j, hx with
    | 0, hx => cases hx; simpa [Addr.add] using cell_block (i := 0) gQ rfl
    | j + 1, hx => simp at hx
  have hone : ∀ x ∈ [mp Q], x.oneCell' = true := fun x hx => by simp at hx; subst hx; rfl
  have h63 : bl.length + 1 ≤ maxLen := by unfold maxLen; omega
  have hby : (bl.length + 1) * 8 ≤ 140737488355328 := by omega
  have hsz := hbl.size
  have hQO : ∀ k, O k → k < Q := fun k hk => hQ ▸ (hO0 k hk).2
  have hQ0 : w0.heap.size ≤ Q := by have := (hO0 B hB).1; have := hQO B hB; omega
  have hQB : Q ≠ B := fun e => by have := hQO B hB; omega
  have hmk : ∀ wx : World, (Instr.makeMap 125 none).run Tryz.prog wx = .ok (.map (some wx.heap.size)) (wx.alloc (.map #[] 0)) := fun wx => by kernel_rfl
  replace hO0 : Hid _ := hO0
  replace hkv : Hid _ := hkv
  go_enter Tryz.func65, Tryz.ntmps65
  go_wp2_with (at_builtin; refine wpList_append_lies _ (by rfl) _ _ _ (by rfl) w0.heap.size 125 i0 _ 1 8 Tryz.underlying64 hi0 hz0 hz1 hz2 rfl (by omega) (.slice bb bl.length bc) bl.length _ (by rfl) h3 ⟨Q + 1, 0, none⟩ 1 1 [mp Q] (by rfl) (by rfl) hnews hone (by omega) h63 hby hsz _ rfl ?_; intro g3 cap3 w3 hown3 hgrow hat hlt3; have p1 := (hgrow.block _ (block_lt h1) hneB).trans h1; have d6 : w3.cell? ⟨B, 6, none⟩ = some (.slice bb bl.length bc) := cell_block p1 rfl; have f6 : w3.frozen? ⟨B, 6, none⟩ = false := frozen_block p1)
  have hg3 : g3 ≠ B := by
    rcases hat with e | e
    · exact (h7 g3 e).2.1
    · have := block_lt h1
      omega
  have hg4 : w0.heap.size ≤ g3 := by
    rcases hat with e | e
    · exact (hO g3 (h7 g3 e).1).1
    · omega
  have hgO : O g3 ∨ V.heap.size ≤ g3 := by
    rcases hat with e | e
    · exact .inl (h7 g3 e).1
    · exact .inr (by omega)
  have hgQ : g3 ≠ Q := fun e => by
    rcases hgO with h | h
    · have := hQO _ h; omega
    · omega
  have hgm : g3 ∉ ms := fun e => by
    rcases hat with e2 | e2
    · exact (h7 g3 e2).2.2.1 e
    · have := (hO g3 (h8 g3 e).1).2
      omega
  have hkO : Keeps O V w3 := (Keeps.grown hgrow).mono (fun k _ e => (h7 k e.symm).1)
  have hk4 := hkO.set B 6 (.slice (some ⟨g3, 0, none⟩) (bl.length + 1) cap3) (fun _ => hB)
  have hb4 := set_block (i := 6) (.slice (some ⟨g3, 0, none⟩) (bl.length + 1) cap3) p1
  have hss : (w3.setCell ⟨B, 6, none⟩ (.slice (some ⟨g3, 0, none⟩) (bl.length + 1) cap3)).heap.size = w3.heap.size := by simp
  have hgs := hgrow.size
  go_end0
  refine ⟨rfl, fun k => O k ∨ k = Q ∨ k = g3, ⟨⟨sb, sc, some ⟨g3, 0, none⟩, cap3, Q :: ms, ?_, ?_, ?_, ?_, ?_, ?_, ?_, ?_⟩, .inl hB, ?_, ⟨kv, hkv.out, ?_⟩, ?_, ?_⟩, hCK.k.trans hk4, ?_⟩
  · exact hb4
  · refine own_keepT h2 (fun q e hq => ?_)
    exact (set1_other _ _ (h6 q e).2.1).trans (hgrow.block q hq (fun e4 => (h7 q e4.symm).2.2.2 e))
  · have e : ((Q :: ms).reverse.map mp) = ms.reverse.map mp ++ [mp Q] := by simp
    rw [e]
    exact own_keepT hown3 (fun q e _ => by simp [Value.ownBlock] at e; subst e; exact set1_other _ _ hg3)
  · refine ⟨?_, h4.keep (fun m hm => ?_)⟩
    · refine (set1_other _ _ hQB).trans ((hgrow.block Q (by omega) (fun e4 => ?_)).trans gM)
      have := hQO Q (h7 Q e4.symm).1
      omega
    · exact (set1_other _ _ (h8 m hm).2).trans (hgrow.block m (hO m (h8 m hm).1).2 (fun e4 => (h7 m e4.symm).2.2.1 hm))
  · rw [List.nodup_cons]
    exact ⟨fun hm => by have := hQO Q (h8 Q hm).1; omega, h5⟩
  · intro q e
    obtain ⟨e1, e2, e3⟩ := h6 q e
    refine ⟨.inl e1, e2, fun hm => ?_⟩
    rcases List.mem_cons.1 hm with rfl | hm
    · have := hQO _ e1; omega
    · exact e3 hm
  · intro q e
    simp [Value.ownBlock] at e
    subst e
    refine ⟨.inr (.inr rfl), hg3, fun hm => ?_, fun e5 => ?_⟩
    · rcases List.mem_cons.1 hm with e6 | hm
      · exact hgQ e6
      · exact hgm hm
    · rcases hat with e6 | e6
      · exact (h7 _ e6).2.2.2 e5
      · have := own_block_lt h2 e5
        omega
  · intro m hm
    rcases List.mem_cons.1 hm with rfl | hm
    · exact ⟨.inr (.inl rfl), hQB⟩
    · exact ⟨.inl (h8 m hm).1, (h8 m hm).2⟩
  · intro k hk
    rw [hss]
    rcases hk with hk | rfl | rfl
    · exact ⟨(hO k hk).1, Nat.lt_of_lt_of_le (hO k hk).2 hgrow.size⟩
    · exact ⟨hQ0, by omega⟩
    · exact ⟨hg4, hlt3⟩
  · exact hk4.box hf hn
  · rintro (hk | rfl | rfl)
    · exact hn hk
    · omega
    · rcases hat with e | e
      · exact hn (h7 _ e).1
      · have := block_lt hf
        omega
  · exact below_keep hbl hk4 (fun k h => (hO k h).1)
  · rintro k (hk | rfl | rfl)
    · exact .inl hk
    · exact .inr (by omega)
    · rcases hgO with h | h
      · exact .inl h
      · exact .inr (by omega)
end Go.Proofs.YtnnppenlfocgiaaGreatDoor
