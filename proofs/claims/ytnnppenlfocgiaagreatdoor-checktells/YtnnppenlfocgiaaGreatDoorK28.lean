/- The program's reader: while; what ends in an expression. The program's reader: what ends in an expression. The program's reader: local; return, emit. The program's reader: for. The program's reader: next; if. The program's reader: what an expression is made of. -/
import Derived.Test.YtnnppenlfocgiaaGreatDoorK18
import Derived.Test.YtnnppenlfocgiaaGreatDoorK26
import Derived.Test.YtnnppenlfocgiaaGreatDoorK27
namespace Go.Proofs.YtnnppenlfocgiaaGreatDoor
open Go.RowKit
open Go

theorem close_pair {w : World} {B : Nat} {ts : List Tok} {x y : Nd} {b b1 : Option Addr} {cap cap1 : Nat} {j : Nat} {W : World} {a0 a1 a2 a3 : Value} (k n : Int) (hx : NdV (fun q => w.heap.size < q) W x (ndv x b cap)) (hy : NdV (fun q => w.heap.size < q) W y (ndv y b1 cap1)) (hR : Rd W B ts j) (hk : Keeps (fun k => k = B) w W) (hB : B < w.heap.size) (g : W.heap[w.heap.size]? = some (.cells #[a0, a1, a2, a3] 24)) :
    PAns no w B ts (.inr (⟨k, [], n, [x, y]⟩, rest ts j)) (.returned (ndv ⟨k, [], n, [x, y]⟩ (some ⟨W.heap.size, 0, none⟩) 2)) (put4 (W.alloc (.cells #[.int .i64 x.k, sk x.t, .int .i64 x.n, .slice b x.kids.length cap, .int .i64 y.k, sk y.t, .int .i64 y.n, .slice b1 y.kids.length cap1] 24)) w.heap.size (.int .i64 k) (sk []) (.int .i64 n) (.slice (some ⟨W.heap.size, 0, none⟩) 2 2)) := by
  obtain ⟨h1, h2, h3⟩ := pair_box k n hx hy (fun q hq => by omega) (block_lt g) g rfl
  exact ⟨j, _, 2, rfl, rfl, h1.weak (fun q hq _ => .inr (by omega)), hR.keep h3 (fun q hq => by omega), hk.then h3 (fun q hq e => by omega)⟩
theorem res139 {tm : Array Value} {W : World} {B : Nat} {a b c d : Value} (h : tm[2]?.getD undef = .pointer (some ⟨B, 0, none⟩)) (hx : W.heap[B]? = some (.cells #[a, b, c, d] 24)) : (results Tryz.f118 tm).run Tryz.prog W = .ok (.agg #[a, b, c, d]) W := by
  obtain ⟨c0, c1, c2, c3, _, _, _, _⟩ := in4 hx
  simp [results, Tryz.results118, go_sem, h, c0, c1, c2, c3]
set_option maxRecDepth 20000 in
set_option maxHeartbeats 1000000 in
theorem loop_of (f : Nat) (hE : ExprC f) (hB : BlkC f) (r : PRes) (B : Nat) (ts : List Tok) (i : Nat) (w : World) (hC : Ctx w B ts i) (hP : (P f 0 nil0 0 (rest ts i)).on (fun x l => need W.do_ l fun l => (P f 7 (nd 4 []) 0 l).on fun b l => need W.end_ l fun l => .ok (nd 9 [x, b]) l) = some r) : Calls Tryz.prog 118 #[.pointer (some ⟨B, 0, none⟩)] w (PAns no w B ts r) := by
  have hBw := hC.R.lt
  have hb0 : Below w.heap.size w (w.alloc zbx) := ext_alloc (Below.refl _ _) _
  have h2 := alloc_new w zbx
  have hk0 : Keeps (fun k => k = B) w (w.alloc zbx) := Keeps.of_below hb0
  have hc1 := callU hP (fun r0 h => hE r0 B ts i _ (hC.below hb0) h)
  clear hP
  go_enter Tryz.func118, Tryz.ntmps118
  go_wp2_with (go_at_call 130; refine hc1.mono ?_; rintro e w1 (⟨j, rfl, hle, rfl, hk1⟩ | ⟨n1, j, b1, cap1, hP1, rfl, hN1, hR1, hk1⟩); (exact ⟨rfl, close_pan rfl hle (hk0.trans hk1)⟩); (try dsimp only at hP1); refine Hid.out ?_)
  have g2 := hk1.box h2 (by omega)
  have hz1 := block_lt g2
  have hb1 : Below w1.heap.size w1 (w1.alloc (nbx n1 b1 cap1)) := ext_alloc (Below.refl _ _) _
  have g3 := alloc_new w1 (nbx n1 b1 cap1)
  have g2' := block_below hb1 g2
  have hkw := (hk0.trans hk1).trans (Keeps.of_below hb1)
  have hN1' : NdV (fun q => w.heap.size < q) (w1.alloc (nbx n1 b1 cap1)) n1 (ndv n1 b1 cap1) := (hN1.weak (fun q hq _ => by simp at hq; omega)).below hb1
  have hc2 := fun u h => body_of f hB r B ts j u h (fun b l => .ok (nd 9 [n1, b]) l) hP1
  have hC1 := (hC.on hR1).below hb1
  have hz3 : (w1.alloc (nbx n1 b1 cap1)).heap.size = w1.heap.size + 1 := World.size_alloc _ _
  obtain ⟨W1, hW1⟩ : ∃ W1, w1.alloc (nbx n1 b1 cap1) = W1 := ⟨_, rfl⟩
  rw [hW1] at g3 g2' hkw hN1' hC1 hz3
  obtain ⟨t, ht⟩ : ∃ t, w1.heap.size = t := ⟨_, rfl⟩
  clear hP1 hc1 hN1 hR1 hk1 h2 g2 hb1
  refine Lib.hid ?_
  go_wp2
  rw [ht] at g3 hz1 hz3
  clear hW1 ht
  obtain ⟨c0, c1, c2, c3, f0, f1, f2, f3⟩ := in4 g3
  go_region_with ((go_at_call 131; refine (hc2 _ (hC1.below ((Below.refl _ _).drew))).mono ?_; rintro e w2 (⟨j2, rfl, hle, rfl, hk2⟩ | ⟨n2, j2, b2, cap2, hP2, rfl, hN2, hR2, hk2⟩); (exact ⟨rfl, close_pan rfl hle ((hkw.drew).trans hk2)⟩); have g3 := hk2.box g3 (by omega); have g2 := hk2.box g2' (by omega); obtain ⟨c0, c1, c2, c3, f0, f1, f2, f3⟩ := in4 g3; obtain ⟨d0, d1, d2, d3, e0, e1, e2, e3⟩ := in4a g2))
  all_goals
    go_wp2
    refine bodyPost_ret (res139 rfl (put4_same _ _ _ _ (block_alloc _ g2))) rfl ?_
    obtain rfl := Option.some.inj hP2
    exact close_pair 9 0 ((hN1'.below ((Below.refl _ _).drew)).keep hk2 (fun q hq _ => by omega)) (hN2.weak (fun q hq _ => by simp at hq; omega)) hR2 ((hkw.drew).trans hk2) hBw g2
end Go.Proofs.YtnnppenlfocgiaaGreatDoor
namespace Go.Proofs.YtnnppenlfocgiaaGreatDoor
open Go.RowKit
open Go

/-- What an end in an expression leaves: the row ahead may have grown. -/
def GU (D : Nat → Prop) (va : Value) (w : World) (B : Nat) (ts : List Tok) (r : PRes) (e : Ending) (w' : World) : Prop :=
  (∃ j, r = .inl (rest ts j) ∧ j ≤ ts.length ∧ e = .panicked (pan (gv ts j)) ∧ Keeps (fun q => q = B ∨ some q = va.ownBlock) w w') ∨
  (∃ N j b cap, r = .inr (N, rest ts j) ∧ e = .returned (ndv N b cap) ∧ NdV (fun g => D g ∨ w.heap.size ≤ g) w' N (ndv N b cap) ∧ Rd w' B ts j ∧ Keeps (fun q => q = B ∨ some q = va.ownBlock) w w')
theorem res141 {tm : Array Value} {W : World} {B : Nat} {a b c d : Value} (h : tm[6]?.getD undef = .pointer (some ⟨B, 0, none⟩)) (hx : W.heap[B]? = some (.cells #[a, b, c, d] 24)) : (results Tryz.f120 tm).run Tryz.prog W = .ok (.agg #[a, b, c, d]) W := by
  obtain ⟨c0, c1, c2, c3, _, _, _, _⟩ := in4 hx
  simp [results, Tryz.results120, go_sem, h, c0, c1, c2, c3]
theorem Keeps.orB {B : Nat} {T : Nat → Prop} {w W : World} (h : Keeps (fun k => k = B) w W) : Keeps (fun q => q = B ∨ T q) w W := h.mono (fun _ _ h => .inl h)
set_option maxRecDepth 20000 in
set_option maxHeartbeats 2000000 in
theorem given_of (f : Nat) (hE : ExprC f) (k : Int) (D : Nat → Prop) (ks : List Nd) (bv : Option Addr) (cv : Nat) (r : PRes) (B : Nat) (ts : List Tok) (i : Nat) (w : World) (hC : Ctx w B ts i) (hRow : Row D w (.slice bv ks.length cv) ks) (hD : ∀ g, D g → g ≠ B) (hlo : ∀ g, Value.ownBlock (.slice bv ks.length cv) = some g → B < g) (hl : ks.length ≤ 4)
    (hP : (P f 0 nil0 0 (rest ts i)).on (fun x l => need S.sc l fun l => .ok ⟨k, [], 0, ks ++ [x]⟩ l) = some r) : Calls Tryz.prog 120 #[.pointer (some ⟨B, 0, none⟩), .int .i64 k, .slice bv ks.length cv] w (GU D (.slice bv ks.length cv) w B ts r) := by
  obtain ⟨i0, hi0, hz0, hz1, hz2⟩ := info_parts info24
  have hBw := hC.R.lt
  have hb0 : Below w.heap.size w (w.alloc zbx) := ext_alloc (Below.refl _ _) _
  have h2 := alloc_new w zbx
  have hk0 : Keeps (fun k => k = B) w (w.alloc zbx) := Keeps.of_below hb0
  have hc1 := callU hP (fun r0 h => hE r0 B ts i _ (hC.below hb0) h)
  obtain ⟨_, _, _, hform⟩ := hRow.form
  have hn1 : ks.length + 1 ≤ maxLen := by unfold maxLen; omega
  have hn2 : (ks.length + 1) * 56 ≤ 140737488355328 := by omega
  replace hform : Hid _ := hform
  replace hlo : Hid _ := hlo
  clear hP
  go_enter Tryz.func120, Tryz.ntmps120
  go_wp2_with (first | (go_at_call 130; refine hc1.mono ?_; rintro e w1 (⟨j, rfl, hle, rfl, hk1⟩ | ⟨n1, j, b1, cap1, hP1, rfl, hN1, hR1, hk1⟩); (exact ⟨rfl, .inl ⟨j, rfl, hle, rfl, (hk0.trans hk1).orB⟩⟩); (try dsimp only at hP1)) | (at_builtin; refine Hid.out ?_))
  have g2 := hk1.box h2 (by omega)
  have hzw := block_lt g2
  have hkw := hk0.trans hk1
  have hb1 : Below w1.heap.size w1 (w1.alloc (nbx n1 b1 cap1)) := ext_alloc (Below.refl _ _) _
  have gn := alloc_new w1 (nbx n1 b1 cap1)
  have g2' := block_below hb1 g2
  have hRow1 : Row (fun g => (D g ∨ w.heap.size ≤ g) ∧ g ≠ w.heap.size) (w1.alloc (nbx n1 b1 cap1)) (.slice bv ks.length cv) ks := (((hRow.weak (S' := fun g => D g ∧ g < w.heap.size) (fun g hg hlt => ⟨hg, hlt⟩)).keep hkw (fun g hg _ => hD g hg.1)).weak (fun g hg _ => ⟨.inl hg.1, by omega⟩)).below hb1
  obtain ⟨xs, ho, hs, hn⟩ := hRow1.own
  have hR1' := hR1.below hb1
  have hN1' : NdV (fun q => w.heap.size < q) (w1.alloc (nbx n1 b1 cap1)) n1 (ndv n1 b1 cap1) := (hN1.weak (fun q hq _ => by simp at hq; omega)).below hb1
  have hszz : (w1.alloc (nbx n1 b1 cap1)).heap.size = w1.heap.size + 1 := World.size_alloc _ _
  obtain ⟨W1, hW1⟩ : ∃ W1, w1.alloc (nbx n1 b1 cap1) = W1 := ⟨_, rfl⟩
  have hkw1 := hkw.trans (Keeps.of_below hb1)
  rw [hW1] at gn g2' ho hn hR1' hN1' hszz hkw1
  dsimp only [nbx] at hW1
  rw [hW1]
  clear hb1 hW1 hc1 hk1 hN1 hR1 hRow1 g2
  refine Lib.hid ?_
  go_wp2_with (first
    | (at_builtin; refine wpList_append_lies _ (by rfl) _ _ _ (by rfl) 0 24 i0 _ 4 56 Tryz.underlying22 hi0 hz0 hz1 hz2 rfl (by omega) (.slice bv ks.length cv) ks.length xs (by rfl) ho ⟨w1.heap.size, 0, none⟩ 1 1 _ (by rfl) (by rfl) (cells_of n1 b1 cap1 gn) (by simp [Value.oneCell']) (by omega) hn1 hn2 (Nat.zero_le _) _ rfl ?_; intro g3 cap3 w3 hown3 hgrow hat hlt3)
    | (go_at_call 82; refine Hid.out ?_))
  have hy : NdV (fun q => ((D q ∨ w.heap.size ≤ q) ∧ q ≠ w.heap.size) ∧ some q ≠ Value.ownBlock (.slice bv ks.length cv)) W1 n1 (ndv n1 b1 cap1) := hN1'.weak (fun q hq _ => ⟨⟨.inr (by omega), by omega⟩, fun e => by have := (hform.out q e.symm).2; omega⟩)
  have hRow3 := Row.snoc ho hs hn hy hown3 hgrow hat (fun q hq => ⟨.inr (by omega), by omega⟩)
  have el : (ks ++ [n1]).length = ks.length + 1 := by simp
  rw [← el] at hRow3
  have hkg : Keeps (fun q => q = B ∨ some q = Value.ownBlock (.slice bv ks.length cv)) w w3 := hkw1.orB.then (Keeps.grown hgrow) (fun q _ h => .inr h)
  have g23 := (hgrow.block _ (block_lt g2') (fun e => by have := (hform.out _ e.symm).2; omega)).trans g2'
  have hR3 := hR1'.keep (Keeps.grown hgrow) (fun q hq e => by have := hlo.out q e.symm; omega)
  have hz3 : w1.heap.size + 1 ≤ w3.heap.size := by have := hgrow.size; omega
  obtain ⟨N, hN⟩ : ∃ N : Nd, N = ⟨k, [], 0, ks ++ [n1]⟩ := ⟨_, rfl⟩
  have hb3 : Below w3.heap.size w3 (w3.alloc (nbx N (some ⟨g3, 0, none⟩) cap3)) := ext_alloc (Below.refl _ _) _
  have g7 := alloc_new w3 (nbx N (some ⟨g3, 0, none⟩) cap3)
  have g23' := block_below hb3 g23
  have hC3 := (hC.on hR3).below hb3
  have hNd3 : NdV (fun g => (D g ∨ w.heap.size ≤ g) ∧ g ≠ w.heap.size) (w3.alloc (nbx N (some ⟨g3, 0, none⟩) cap3)) N (ndv N (some ⟨g3, 0, none⟩) cap3) := by
    subst hN
    exact (hRow3.node k [] 0).below hb3
  have hW5 := hC3.wantsU pl_sc hP1 _ (Below.refl _ _)
  rw [World.size_alloc] at hW5
  have hobj : nbx N (some ⟨g3, 0, none⟩) cap3 = .cells #[.int .i64 k, .string ⟨#[]⟩, .int .i64 0, .slice (some ⟨g3, 0, none⟩) (ks.length + 1) cap3] 24 := by
    subst hN
    rw [← el]
  rw [← hN] at hW5
  have hkg3 := hkg.trans (Keeps.of_below hb3)
  have hsz5 : (w3.alloc (nbx N (some ⟨g3, 0, none⟩) cap3)).heap.size = w3.heap.size + 1 := World.size_alloc _ _
  rw [hobj] at hW5
  replace hobj : Hid _ := hobj
  replace hN : Hid _ := hN
  clear el hown3 hgrow hat hlt3 ho hs hn hy hRow3 hR3 g23 gn g2' hR1' hN1' hkw1 hkg hP1
  refine Lib.hid ?_
  go_wp2_with (go_at_call 82; refine hW5.mono ?_; rintro e w5 (⟨rfl, hle, rfl, hk5⟩ | ⟨hP5, rfl, hR5, hk5⟩); (rw [← hobj.out] at hk5; exact ⟨rfl, .inl ⟨j, rfl, hle, rfl, hkg3.trans hk5.orB⟩⟩); rw [← hobj.out] at hk5; have p7 := hk5.box g7 (by omega); have p6 := hk5.box g23' (by omega); obtain ⟨c0, c1, c2, c3, f0, f1, f2, f3⟩ := in4 p7; obtain ⟨d0, d1, d2, d3, e0, e1, e2, e3⟩ := in4 p6)
  refine bodyPost_ret (res141 rfl (put4_same _ _ _ _ p6)) rfl ?_
  have hNd5 := hNd3.keep hk5 (fun g hg _ => by rcases hg.1 with h | h; exact hD g h; omega)
  refine .inr ⟨N, j + 1, some ⟨g3, 0, none⟩, cap3, (Option.some.inj hP5).symm, rfl, ?_, hR5.put4 _ _ _ _ _ hBw, put4_keeps (hkg3.trans hk5.orB) _ _ _ _ _ (Nat.le_refl _)⟩
  exact (hNd5.put4 _ _ _ _ _ (fun g hg => hg.2)).weak (fun g hg _ => hg.1)
end Go.Proofs.YtnnppenlfocgiaaGreatDoor
namespace Go.Proofs.YtnnppenlfocgiaaGreatDoor
open Go.RowKit
open Go

theorem NdV.text {D : Nat → Prop} {W : World} {k : Int} {t : List UInt8} {n : Int} {ks : List Nd} {b : Option Addr} {cap : Nat} (h : NdV D W ⟨k, t, n, ks⟩ (ndv ⟨k, t, n, ks⟩ b cap)) (s : List UInt8) : NdV D W ⟨k, s, n, ks⟩ (ndv ⟨k, s, n, ks⟩ b cap) := by
  obtain ⟨b', cap', e, h4, h5⟩ := h.form
  simp only [Value.agg.injEq, Array.mk.injEq, List.cons.injEq, Value.slice.injEq, true_and, and_true] at e
  obtain ⟨rfl, rfl⟩ := e
  exact ndV_mk h4 h5
theorem given_text {f : Nat} {l : List PT} {k : Int} {s : List UInt8} {r : PRes} (h : (P f 0 nil0 0 l).on (fun x l => need S.sc l fun l => .ok ⟨k, s, 0, [x]⟩ l) = some r) :
    ∃ r', (P f 0 nil0 0 l).on (fun x l => need S.sc l fun l => .ok ⟨k, [], 0, [] ++ [x]⟩ l) = some r' ∧ ((∃ l1, r' = .inl l1 ∧ r = .inl l1) ∨ ∃ x l1, r' = .inr (⟨k, [], 0, [x]⟩, l1) ∧ r = .inr (⟨k, s, 0, [x]⟩, l1)) := by
  obtain ⟨r0, h0, h1⟩ := on_some h
  rw [h0]
  rcases h1 with ⟨l1, rfl, rfl⟩ | ⟨n, l1, rfl, h1⟩
  · exact ⟨.inl l1, rfl, .inl ⟨l1, rfl, rfl⟩⟩
  · rcases need_some h1 with ⟨hy, h2⟩ | ⟨hy, rfl⟩
    · refine ⟨.inr (⟨k, [], 0, [n]⟩, l1.tail), ?_, .inr ⟨n, l1.tail, rfl, (Option.some.inj h2).symm⟩⟩
      show need S.sc l1 _ = _
      unfold need
      rw [if_pos hy]
      rfl
    · refine ⟨.inl l1, ?_, .inl ⟨l1, rfl, rfl⟩⟩
      show need S.sc l1 _ = _
      unfold need
      rw [if_neg hy]
theorem given_nil (f : Nat) (hE : ExprC f) (k : Int) (r : PRes) (B : Nat) (ts : List Tok) (i : Nat) (w : World) (hC : Ctx w B ts i) (hP : (P f 0 nil0 0 (rest ts i)).on (fun x l => need S.sc l fun l => .ok ⟨k, [], 0, [] ++ [x]⟩ l) = some r) : Calls Tryz.prog 120 #[.pointer (some ⟨B, 0, none⟩), .int .i64 k, .slice none 0 0] w (PAns no w B ts r) := by
  refine (given_of f hE k no [] none 0 r B ts i w hC (Row.nil _ _) (fun g h => h.elim) (fun g h => by simp [Value.ownBlock] at h) (by simp) hP).mono ?_
  intro e w' hA
  have hT : ∀ {a b : World}, Keeps (fun q => q = B ∨ some q = Value.ownBlock (.slice none ([] : List Nd).length 0)) a b → Keeps (fun q => q = B) a b := fun h => h.mono (fun q _ h => h.resolve_right (by simp [Value.ownBlock]))
  rcases hA with ⟨j, rfl, hle, rfl, hk⟩ | ⟨N, j, b, cap, rfl, rfl, hN, hR, hk⟩
  · exact close_pan rfl hle (hT hk)
  · exact ⟨j, b, cap, rfl, rfl, hN, hR, hT hk⟩
theorem res137 {tm : Array Value} {W : World} {B : Nat} {a b c d : Value} (h : tm[2]?.getD undef = .pointer (some ⟨B, 0, none⟩)) (hx : W.heap[B]? = some (.cells #[a, b, c, d] 24)) : (results Tryz.f116 tm).run Tryz.prog W = .ok (.agg #[a, b, c, d]) W := by
  obtain ⟨c0, c1, c2, c3, _, _, _, _⟩ := in4 hx
  simp [results, Tryz.results116, go_sem, h, c0, c1, c2, c3]
set_option maxRecDepth 20000 in
set_option maxHeartbeats 1000000 in
theorem local_of (f : Nat) (hE : ExprC f) (r : PRes) (B : Nat) (ts : List Tok) (i : Nat) (w : World) (hC : Ctx w B ts i) (hP : needName (rest ts i) (fun s l => need S.eq l fun l => (P f 0 nil0 0 l).on fun x l => need S.sc l fun l => .ok ⟨5, s, 0, [x]⟩ l) = some r) : Calls Tryz.prog 116 #[.pointer (some ⟨B, 0, none⟩)] w (PAns no w B ts r) := by
  have hBw := hC.R.lt
  have hb0 : Below w.heap.size w (w.alloc zbx) := ext_alloc (Below.refl _ _) _
  have h2 := alloc_new w zbx
  have hk0 : Keeps (fun k => k = B) w (w.alloc zbx) := Keeps.of_below hb0
  have hc1 := hC.nameU hP _ hb0
  clear hP
  go_enter Tryz.func116, Tryz.ntmps116
  go_wp2_with (first
    | (go_at_call 83; refine hc1.mono ?_; rintro e w1 (⟨rfl, hle, rfl, hk1⟩ | ⟨s, hP1, rfl, hR1, hk1⟩); (exact ⟨rfl, close_pan rfl hle (hk0.trans hk1)⟩); (try dsimp only at hP1); have hk1' := hk0.trans hk1; have g1 := hk1.box h2 (by omega))
    | (go_at_call 82; refine ((hC.on hR1).wantsU pl_eq hP1 _ (Below.refl _ _)).mono ?_; rintro e w2 (⟨rfl, hle, rfl, hk2⟩ | ⟨hP2, rfl, hR2, hk2⟩); (exact ⟨rfl, close_pan rfl hle (hk1'.trans hk2)⟩); (try dsimp only at hP2); have hk2' := hk1'.trans hk2; have g2 := hk2.box g1 (by omega); obtain ⟨r', hr', hrr⟩ := given_text hP2; have hc3 := given_nil f hE 5 r' B ts _ _ (hC.on hR2) hr'; replace hrr : Hid _ := hrr; clear hr' hP2)
    | (go_at_call 120; refine hc3.mono ?_; intro e w3 hA; rcases r' with l1 | ⟨n3, l1⟩; (obtain ⟨j, rfl, hle, rfl, hk3⟩ := hA; rcases hrr.out with ⟨l, e1, e2⟩ | ⟨n, l, e1, _⟩; (cases e1; subst e2; exact ⟨rfl, close_pan rfl hle (hk2'.trans hk3)⟩); cases e1); obtain ⟨j, b3, cap3, hj, rfl, hN3, hR3, hk3⟩ := hA; have hk3' := hk2'.trans hk3; have g3 := hk3.box g2 (by omega); refine Hid.out ?_))
  rcases hrr.out with ⟨l, e1, _⟩ | ⟨x, l, e1, hre⟩
  · cases e1
  cases e1
  subst hre
  obtain ⟨d0, d1, d2, d3, e0, e1, e2, e3⟩ := in4a g3
  have hzw := block_lt g1
  have hz2 := hk2.size
  clear hrr hc1 hc3 hP1 h2
  refine Lib.hid ?_
  go_wp2
  refine bodyPost_ret (res137 rfl (put4_same _ _ _ _ (block_alloc _ g3))) rfl ?_
  have hb3 : Below w3.heap.size w3 (w3.alloc (nbx ⟨5, s, 0, [x]⟩ b3 cap3)) := ext_alloc (Below.refl _ _) _
  exact close_ret (N := ⟨5, s, 0, [x]⟩) hj ((hN3.text s).below hb3 |>.weak (fun q hq _ => by rcases hq with hq | hq; exact hq.elim; exact ⟨.inr (by omega), by omega⟩)) (hR3.below hb3) (hk3'.trans (Keeps.of_below hb3)) (Nat.le_refl _) hBw
end Go.Proofs.YtnnppenlfocgiaaGreatDoor
namespace Go.Proofs.YtnnppenlfocgiaaGreatDoor
open Go.RowKit
open Go

theorem Row.three {D : Nat → Prop} {W : World} {g : Nat} {x y z : Nd} {a b c d a' b' c' d' a'' b'' c'' d'' : Value} (hm : D g) (hx : NdV (fun q => D q ∧ q ≠ g) W x (.agg #[a, b, c, d])) (hy : NdV (fun q => D q ∧ q ≠ g) W y (.agg #[a', b', c', d'])) (hz : NdV (fun q => D q ∧ q ≠ g) W z (.agg #[a'', b'', c'', d''])) (hg : W.heap[g]? = some (.cells #[a, b, c, d, a', b', c', d', a'', b'', c'', d''] 24)) :
    Row D W (.slice (some ⟨g, 0, none⟩) 3 3) [x, y, z] := by
  refine ⟨[a, b, c, d, a', b', c', d', a'', b'', c'', d''], ⟨rfl, .inr ⟨g, 3, _, rfl, Nat.zero_le _, hg, Nat.le_refl _, by unfold maxLen; omega, rfl, rfl⟩⟩, fun q e => by
    have e3 : g = q := by simpa [Value.ownBlock] using e
    subst e3; exact hm, fun j u hu => ?_⟩
  have hS : ∀ q, (D q ∧ q ≠ g) → q < W.heap.size → (D q ∧ some q ≠ Value.ownBlock (.slice (some ⟨g, 0, none⟩) 3 3)) ∧ W.heap[q]? = W.heap[q]? := fun q hq _ => ⟨⟨hq.1, fun e => hq.2 (by simpa [Value.ownBlock] using e)⟩, rfl⟩
  match j, hu with
  | 0, hu =>
    simp at hu; subst hu
    obtain ⟨_, _, _, _, e, hx⟩ := hx
    simp only [Value.agg.injEq, Array.mk.injEq, List.cons.injEq, and_true] at e
    obtain ⟨rfl, rfl, rfl, rfl⟩ := e
    refine NdAt.on hS _ _ _ (fun i u hu => ?_) hx
    match i, hu with
    | 0, hu | 1, hu | 2, hu | 3, hu => simpa using hu
    | n + 4, hu => simp at hu
  | 1, hu =>
    simp at hu; subst hu
    obtain ⟨_, _, _, _, e, hy⟩ := hy
    simp only [Value.agg.injEq, Array.mk.injEq, List.cons.injEq, and_true] at e
    obtain ⟨rfl, rfl, rfl, rfl⟩ := e
    refine NdAt.on hS _ _ _ (fun i u hu => ?_) hy
    match i, hu with
    | 0, hu | 1, hu | 2, hu | 3, hu => simpa using hu
    | n + 4, hu => simp at hu
  | 2, hu =>
    simp at hu; subst hu
    obtain ⟨_, _, _, _, e, hz⟩ := hz
    simp only [Value.agg.injEq, Array.mk.injEq, List.cons.injEq, and_true] at e
    obtain ⟨rfl, rfl, rfl, rfl⟩ := e
    refine NdAt.on hS _ _ _ (fun i u hu => ?_) hz
    match i, hu with
    | 0, hu | 1, hu | 2, hu | 3, hu => simpa using hu
    | n + 4, hu => simp at hu
  | n + 3, hu => simp at hu
theorem close_three {w : World} {B : Nat} {ts : List Tok} {x y z : Nd} {b b1 b2 : Option Addr} {cap cap1 cap2 : Nat} {j : Nat} {W : World} {a0 a1 a2 a3 : Value} (k : Int) (s : List UInt8) (hx : NdV (fun q => w.heap.size < q) W x (ndv x b cap)) (hy : NdV (fun q => w.heap.size < q) W y (ndv y b1 cap1)) (hz : NdV (fun q => w.heap.size < q) W z (ndv z b2 cap2)) (hR : Rd W B ts j) (hk : Keeps (fun k => k = B) w W) (hB : B < w.heap.size) (g : W.heap[w.heap.size]? = some (.cells #[a0, a1, a2, a3] 24)) :
    PAns no w B ts (.inr (⟨k, s, 0, [x, y, z]⟩, rest ts j)) (.returned (ndv ⟨k, s, 0, [x, y, z]⟩ (some ⟨W.heap.size, 0, none⟩) 3)) (put4 (W.alloc (.cells #[.int .i64 x.k, sk x.t, .int .i64 x.n, .slice b x.kids.length cap, .int .i64 y.k, sk y.t, .int .i64 y.n, .slice b1 y.kids.length cap1, .int .i64 z.k, sk z.t, .int .i64 z.n, .slice b2 z.kids.length cap2] 24)) w.heap.size (.int .i64 k) (sk s) (.int .i64 0) (.slice (some ⟨W.heap.size, 0, none⟩) 3 3)) := by
  have hb := ext_alloc (Below.refl W.heap.size W) (.cells #[.int .i64 x.k, sk x.t, .int .i64 x.n, .slice b x.kids.length cap, .int .i64 y.k, sk y.t, .int .i64 y.n, .slice b1 y.kids.length cap1, .int .i64 z.k, sk z.t, .int .i64 z.n, .slice b2 z.kids.length cap2] 24)
  have hlt := block_lt g
  have go : ∀ {u : Nd} {v : Value}, NdV (fun q => w.heap.size < q) W u v → NdV (fun q => w.heap.size < q ∧ q ≠ W.heap.size) (W.alloc (.cells #[.int .i64 x.k, sk x.t, .int .i64 x.n, .slice b x.kids.length cap, .int .i64 y.k, sk y.t, .int .i64 y.n, .slice b1 y.kids.length cap1, .int .i64 z.k, sk z.t, .int .i64 z.n, .slice b2 z.kids.length cap2] 24)) u v := fun h => (h.weak (fun q hq hlt => ⟨hq, by omega⟩)).below hb
  have h1 := ((Row.three (D := fun q => w.heap.size < q) hlt (go hx) (go hy) (go hz) (alloc_new W _)).node k s 0).put4 w.heap.size (.int .i64 k) (sk s) (.int .i64 0) (.slice (some ⟨W.heap.size, 0, none⟩) 3 3) (fun q hq => by omega)
  exact ⟨j, _, 3, rfl, rfl, h1.weak (fun q hq _ => .inr (by omega)), (hR.below hb).put4 _ _ _ _ _ hB, put4_keeps (hk.trans (Keeps.of_below hb)) _ _ _ _ _ (Nat.le_refl _)⟩
theorem res140 {tm : Array Value} {W : World} {B : Nat} {a b c d : Value} (h : tm[2]?.getD undef = .pointer (some ⟨B, 0, none⟩)) (hx : W.heap[B]? = some (.cells #[a, b, c, d] 24)) : (results Tryz.f119 tm).run Tryz.prog W = .ok (.agg #[a, b, c, d]) W := by
  obtain ⟨c0, c1, c2, c3, _, _, _, _⟩ := in4 hx
  simp [results, Tryz.results119, go_sem, h, c0, c1, c2, c3]
set_option maxRecDepth 20000 in
set_option maxHeartbeats 2000000 in
theorem count_of (f : Nat) (hE : ExprC f) (hB : BlkC f) (r : PRes) (B : Nat) (ts : List Tok) (i : Nat) (w : World) (hC : Ctx w B ts i) (hP : needName (rest ts i) (fun s l => need S.eq l fun l => (P f 0 nil0 0 l).on fun x l => need S.cm l fun l => (P f 0 nil0 0 l).on fun y l => need W.do_ l fun l => (P f 7 (nd 4 []) 0 l).on fun b l => need W.end_ l fun l => .ok ⟨10, s, 0, [x, y, b]⟩ l) = some r) : Calls Tryz.prog 119 #[.pointer (some ⟨B, 0, none⟩)] w (PAns no w B ts r) := by
  have hBw := hC.R.lt
  have hb0 : Below w.heap.size w (w.alloc zbx) := ext_alloc (Below.refl _ _) _
  have h2 := alloc_new w zbx
  have hk0 : Keeps (fun k => k = B) w (w.alloc zbx) := Keeps.of_below hb0
  have hc1 := hC.nameU hP _ hb0
  clear hP
  go_enter Tryz.func119, Tryz.ntmps119
  go_wp2_with (first
    | (go_at_call 83; refine hc1.mono ?_; rintro e w1 (⟨rfl, hle, rfl, hk1⟩ | ⟨s, hP1, rfl, hR1, hk1⟩); (exact ⟨rfl, close_pan rfl hle (hk0.trans hk1)⟩); (try dsimp only at hP1); have hk1' := hk0.trans hk1; have g1 := hk1.box h2 (by omega))
    | (go_at_call 82; refine ((hC.on hR1).wantsU pl_eq hP1 _ (Below.refl _ _)).mono ?_; rintro e w2 (⟨rfl, hle, rfl, hk2⟩ | ⟨hP2, rfl, hR2, hk2⟩); (exact ⟨rfl, close_pan rfl hle (hk1'.trans hk2)⟩); (try dsimp only at hP2); have hk2' := hk1'.trans hk2; have g2 := hk2.box g1 (by omega))
    | (go_at_call 130; refine (callU hP2 (fun r0 h => hE r0 B ts _ _ (hC.on hR2) h)).mono ?_; rintro e w3 (⟨j, rfl, hle, rfl, hk3⟩ | ⟨n1, j1, b1, cap1, hP3, rfl, hN1, hR3, hk3⟩); (exact ⟨rfl, close_pan rfl hle (hk2'.trans hk3)⟩); (try dsimp only at hP3); have hk3' := hk2'.trans hk3; have g3 := hk3.box g2 (by omega); refine Hid.out ?_))
  have hzw := block_lt g1
  have hz2 := hk2.size
  have hz3 := hk3.size
  have hb3 : Below w3.heap.size w3 (w3.alloc (nbx n1 b1 cap1)) := ext_alloc (Below.refl _ _) _
  have q4 := alloc_new w3 (nbx n1 b1 cap1)
  have g3' := block_below hb3 g3
  have hN1' : NdV (fun q => w.heap.size < q) (w3.alloc (nbx n1 b1 cap1)) n1 (ndv n1 b1 cap1) := (hN1.weak (fun q hq _ => by omega)).below hb3
  have hk4 := hk3'.trans (Keeps.of_below hb3)
  have hW4 := (hC.on hR3).wantsU pl_cm hP3 _ hb3
  rw [World.size_alloc] at hW4
  clear hc1 hP1 hP2 hP3 hR1 hk1 hk1' hR2 hk2 hk2' g2 h2 hk3 hk3' hN1
  refine Lib.hid ?_
  go_wp2_with (first
    | (go_at_call 82; refine hW4.mono ?_; rintro e w5 (⟨rfl, hle, rfl, hk5⟩ | ⟨hP5, rfl, hR5, hk5⟩); (exact ⟨rfl, close_pan rfl hle (hk4.trans hk5)⟩); (try dsimp only at hP5); have hk5' := hk4.trans hk5; have p4 := hk5.box q4 (by omega); have p2 := hk5.box g3' (by omega); have hN5 := hN1'.keep hk5 (fun q hq _ => by omega))
    | (go_at_call 130; refine (callU hP5 (fun r0 h => hE r0 B ts _ _ (hC.on hR5) h)).mono ?_; rintro e w6 (⟨j, rfl, hle, rfl, hk6⟩ | ⟨n2, j2, b2, cap2, hP6, rfl, hN2, hR6, hk6⟩); (exact ⟨rfl, close_pan rfl hle (hk5'.trans hk6)⟩); (try dsimp only at hP6); have hk6' := hk5'.trans hk6; have p4' := hk6.box p4 (by omega); have p2' := hk6.box p2 (by omega); have hN6 := hN5.keep hk6 (fun q hq _ => by omega); refine Hid.out ?_))
  have hz5 := block_lt p4
  have hz6 := hk6.size
  have hb6 : Below w6.heap.size w6 (w6.alloc (nbx n2 b2 cap2)) := ext_alloc (Below.refl _ _) _
  have q5 := alloc_new w6 (nbx n2 b2 cap2)
  have q4' := block_below hb6 p4'
  have q2' := block_below hb6 p2'
  have hNx := hN6.below hb6
  have hNy : NdV (fun q => w.heap.size < q) (w6.alloc (nbx n2 b2 cap2)) n2 (ndv n2 b2 cap2) := (hN2.weak (fun q hq _ => by omega)).below hb6
  have hk7 := hk6'.trans (Keeps.of_below hb6)
  have hC7 := (hC.on hR6).below hb6
  have hc8 := fun u h => body_of f hB r B ts j2 u h (fun b l => .ok ⟨10, s, 0, [n1, n2, b]⟩ l) hP6
  have hs7 : (w6.alloc (nbx n2 b2 cap2)).heap.size = w6.heap.size + 1 := World.size_alloc _ _
  obtain ⟨W7, hW7⟩ : ∃ W7, w6.alloc (nbx n2 b2 cap2) = W7 := ⟨_, rfl⟩
  rw [hW7] at q5 q4' q2' hNx hNy hk7 hC7 hs7
  obtain ⟨t4, h4⟩ : ∃ t4, w3.heap.size = t4 := ⟨_, rfl⟩
  obtain ⟨t5, h5⟩ : ∃ t5, w6.heap.size = t5 := ⟨_, rfl⟩
  clear hP5 hP6 hW4 hR3 hR5 hR6 hk5 hk6 hk5' hk6' p4 p2 p4' p2' hN1' hN5 hN6 hN2 hb3 hb6 q4 g3 g3' hk4
  refine Lib.hid ?_
  go_wp2
  rw [h4] at q4' hz3 hz5 ⊢
  rw [h5] at q5 hs7 hz6
  clear hW7 h4 h5
  obtain ⟨c0, c1, c2, c3, f0, f1, f2, f3⟩ := in4 q4'
  obtain ⟨d0, d1, d2, d3, e0, e1, e2, e3⟩ := in4 q5
  go_region_with ((go_at_call 131; refine (hc8 _ (hC7.below ((Below.refl _ _).drew))).mono ?_; rintro e w8 (⟨j8, rfl, hle, rfl, hk8⟩ | ⟨n3, j8, b3, cap3, hP8, rfl, hN3, hR8, hk8⟩); (exact ⟨rfl, close_pan rfl hle ((hk7.drew).trans hk8)⟩); have g4 := hk8.box q4' (by omega); have g5 := hk8.box q5 (by omega); have g2 := hk8.box q2' (by omega); obtain ⟨c0, c1, c2, c3, f0, f1, f2, f3⟩ := in4 g4; obtain ⟨d0, d1, d2, d3, e0, e1, e2, e3⟩ := in4 g5; obtain ⟨u0, u1, u2, u3, v0, v1, v2, v3⟩ := in4a g2))
  all_goals
    go_wp2
    refine bodyPost_ret (res140 rfl (put4_same _ _ _ _ (block_alloc _ g2))) rfl ?_
    obtain rfl := Option.some.inj hP8
    exact close_three 10 s ((hNx.below ((Below.refl _ _).drew)).keep hk8 (fun q hq _ => by omega)) ((hNy.below ((Below.refl _ _).drew)).keep hk8 (fun q hq _ => by omega)) (hN3.weak (fun q hq _ => by simp at hq; omega)) hR8 ((hk7.drew).trans hk8) hBw g2
end Go.Proofs.YtnnppenlfocgiaaGreatDoor
namespace Go.Proofs.YtnnppenlfocgiaaGreatDoor
open Go.RowKit
open Go

/-- A pair of nodes, and the box of the node that is made of them. -/
structure PB (w W : World) (B : Nat) (ts : List Tok) (k : Int) (x y : Nd) (t j : Nat) : Prop where
  box : ∃ b cap, W.heap[t]? = some (nbx (nd k [x, y]) b cap) ∧ Row (fun q => w.heap.size < q ∧ q ≠ t) W (.slice b 2 cap) [x, y] ∧ (∀ q, Value.ownBlock (.slice b 2 cap) = some q → w.heap.size < q)
  ans : W.heap[w.heap.size]? = some zbx
  R : Rd W B ts j
  K : Keeps (fun k => k = B) w W
  lt : w.heap.size < t
abbrev pairO (x y : Nd) (b b1 : Option Addr) (cap cap1 : Nat) : Obj := .cells #[.int .i64 x.k, sk x.t, .int .i64 x.n, .slice b x.kids.length cap, .int .i64 y.k, sk y.t, .int .i64 y.n, .slice b1 y.kids.length cap1] 24
theorem own_is {g n c q : Nat} (e : Value.ownBlock (.slice (some ⟨g, 0, none⟩) n c) = some q) : g = q := by simpa [Value.ownBlock] using e
theorem pb_A {w w2 : World} {B : Nat} {ts : List Tok} {x y : Nd} {b b1 : Option Addr} {cap cap1 j : Nat} (k : Int) (hx : NdV (fun q => w.heap.size < q) w2 x (ndv x b cap)) (hy : NdV (fun q => w.heap.size < q) w2 y (ndv y b1 cap1)) (g2 : w2.heap[w.heap.size]? = some zbx) (hR : Rd w2 B ts j) (hk : Keeps (fun k => k = B) w w2) :
    PB w ((w2.alloc (pairO x y b b1 cap cap1)).alloc (nbx (nd k [x, y]) (some ⟨w2.heap.size, 0, none⟩) 2)) B ts k x y (w2.heap.size + 1) j := by
  have hb := ext_alloc (ext_alloc (Below.refl w2.heap.size w2) (pairO x y b b1 cap cap1)) (nbx (nd k [x, y]) (some ⟨w2.heap.size, 0, none⟩) 2)
  have hlt := block_lt g2
  have h4 := alloc_new (w2.alloc (pairO x y b b1 cap cap1)) (nbx (nd k [x, y]) (some ⟨w2.heap.size, 0, none⟩) 2)
  rw [World.size_alloc] at h4
  refine ⟨⟨_, 2, h4, ?_, fun q e => by have := own_is e; omega⟩, block_below hb g2, hR.below hb, hk.trans (Keeps.of_below hb), by omega⟩
  have hb1 := ext_alloc (Below.refl w2.heap.size w2) (pairO x y b b1 cap cap1)
  refine Row.below (W := w2.alloc (pairO x y b b1 cap cap1)) (Row.two ⟨hlt, by omega⟩ ?_ ?_ (alloc_new w2 _)) (ext_alloc (Below.refl _ _) _)
  · exact (hx.weak (fun q hq hlt => ⟨⟨hq, by omega⟩, by omega⟩)).below hb1
  · exact (hy.weak (fun q hq hlt => ⟨⟨hq, by omega⟩, by omega⟩)).below hb1
theorem pb_B {w w2 : World} {B : Nat} {ts : List Tok} {x y : Nd} {b b1 : Option Addr} {cap cap1 j t : Nat} (k : Int) (hx : NdV (fun q => w.heap.size < q ∧ q ≠ t) w2 x (ndv x b cap)) (hy : NdV (fun q => w.heap.size < q ∧ q ≠ t) w2 y (ndv y b1 cap1)) (g2 : w2.heap[w.heap.size]? = some zbx) (gt : w2.heap[t]? = some zbx) (ht : w.heap.size < t) (hBw : B < w.heap.size) (hR : Rd w2 B ts j) (hk : Keeps (fun k => k = B) w w2) :
    PB w (put4 (w2.alloc (pairO x y b b1 cap cap1)) t (.int .i64 k) (sk []) (.int .i64 0) (.slice (some ⟨w2.heap.size, 0, none⟩) 2 2)) B ts k x y t j := by
  have hlt := block_lt g2
  have hlt4 := block_lt gt
  have hb1 := ext_alloc (Below.refl w2.heap.size w2) (pairO x y b b1 cap cap1)
  refine ⟨⟨_, 2, put4_same _ _ _ _ (block_alloc _ gt), ?_, fun q e => by have := own_is e; omega⟩, (put4_other _ _ _ _ (by omega)).trans (block_alloc _ g2), (hR.below hb1).put4 _ _ _ _ _ (by omega), put4_keeps (hk.trans (Keeps.of_below hb1)) _ _ _ _ _ (by omega), ht⟩
  refine Row.keep ?_ (put4_self _ _ _ _ _ _) (fun q hq _ => hq.2)
  refine Row.two ⟨hlt, by omega⟩ ?_ ?_ (alloc_new w2 _)
  · exact (hx.weak (fun q hq hlt => ⟨hq, by omega⟩)).below hb1
  · exact (hy.weak (fun q hq hlt => ⟨hq, by omega⟩)).below hb1
theorem pb_C {w w2 : World} {B : Nat} {ts : List Tok} {x y : Nd} {b b1 : Option Addr} {cap cap1 j : Nat} (k : Int) (hx : NdV (fun q => w.heap.size < q) w2 x (ndv x b cap)) (hy : NdV (fun q => w.heap.size < q) w2 y (ndv y b1 cap1)) (g2 : w2.heap[w.heap.size]? = some zbx) (hR : Rd w2 B ts j) (hk : Keeps (fun k => k = B) w w2) :
    PB w ((w2.alloc (nbx (nd k [x, y]) (some ⟨w2.heap.size + 1, 0, none⟩) 2)).alloc (pairO x y b b1 cap cap1)) B ts k x y w2.heap.size j := by
  have hb := ext_alloc (ext_alloc (Below.refl w2.heap.size w2) (nbx (nd k [x, y]) (some ⟨w2.heap.size + 1, 0, none⟩) 2)) (pairO x y b b1 cap cap1)
  have hlt := block_lt g2
  have h4 := alloc_new (w2.alloc (nbx (nd k [x, y]) (some ⟨w2.heap.size + 1, 0, none⟩) 2)) (pairO x y b b1 cap cap1)
  rw [World.size_alloc] at h4
  refine ⟨⟨_, 2, block_alloc _ (alloc_new w2 _), ?_, fun q e => by have := own_is e; omega⟩, block_below hb g2, hR.below hb, hk.trans (Keeps.of_below hb), hlt⟩
  refine Row.two ⟨by omega, by omega⟩ ?_ ?_ h4
  · exact (hx.weak (fun q hq hlt => ⟨⟨hq, by omega⟩, by omega⟩)).below hb
  · exact (hy.weak (fun q hq hlt => ⟨⟨hq, by omega⟩, by omega⟩)).below hb
theorem res180 {tm : Array Value} {W : World} {B : Nat} {a b c d : Value} (h : tm[2]?.getD undef = .pointer (some ⟨B, 0, none⟩)) (hx : W.heap[B]? = some (.cells #[a, b, c, d] 24)) : (results Tryz.f153 tm).run Tryz.prog W = .ok (.agg #[a, b, c, d]) W := by
  obtain ⟨c0, c1, c2, c3, _, _, _, _⟩ := in4 hx
  simp [results, Tryz.results153, go_sem, h, c0, c1, c2, c3]
set_option maxRecDepth 20000 in
set_option maxHeartbeats 2000000 in
theorem next_of (f : Nat) (hE : ExprC f) (r : PRes) (B : Nat) (ts : List Tok) (i : Nat) (w : World) (hC : Ctx w B ts i) (hP : need S.lp (rest ts i) (fun l => (P f 0 nil0 0 l).on fun x l => need S.cm l fun l => (P f 0 nil0 0 l).on fun y l => need S.rp l fun l => .ok (nd 26 [x, y]) l) = some r) : Calls Tryz.prog 153 #[.pointer (some ⟨B, 0, none⟩)] w (PAns no w B ts r) := by
  have hBw := hC.R.lt
  have hb0 : Below w.heap.size w (w.alloc zbx) := ext_alloc (Below.refl _ _) _
  have h2 := alloc_new w zbx
  have hk0 : Keeps (fun k => k = B) w (w.alloc zbx) := Keeps.of_below hb0
  have hc1 := hC.wantsU pl_lp hP _ hb0
  rw [World.size_alloc] at hc1
  clear hP
  go_enter Tryz.func153, Tryz.ntmps153
  go_wp2_with (first
    | (go_at_call 82; refine hc1.mono ?_; rintro e w2 (⟨rfl, hle, rfl, hk2⟩ | ⟨hP2, rfl, hR2, hk2⟩); (exact ⟨rfl, close_pan rfl hle (hk0.trans hk2)⟩); (try dsimp only at hP2); have hk2' := hk0.trans hk2; have g2 := hk2.box h2 (by omega))
    | (go_at_call 130; refine (callU hP2 (fun r0 h => hE r0 B ts _ _ (hC.on hR2) h)).mono ?_; rintro e w3 (⟨j, rfl, hle, rfl, hk3⟩ | ⟨n1, j1, b1, cap1, hP3, rfl, hN1, hR3, hk3⟩); (exact ⟨rfl, close_pan rfl hle (hk2'.trans hk3)⟩); (try dsimp only at hP3); have hk3' := hk2'.trans hk3; have g3 := hk3.box g2 (by omega); refine Hid.out ?_))
  have hzw := block_lt g2
  have hz3 := hk3.size
  have hb3 : Below w3.heap.size w3 (w3.alloc (nbx n1 b1 cap1)) := ext_alloc (Below.refl _ _) _
  have q4 := alloc_new w3 (nbx n1 b1 cap1)
  have g3' := block_below hb3 g3
  have hN1' : NdV (fun q => w.heap.size < q) (w3.alloc (nbx n1 b1 cap1)) n1 (ndv n1 b1 cap1) := (hN1.weak (fun q hq _ => by omega)).below hb3
  have hk4 := hk3'.trans (Keeps.of_below hb3)
  have hW4 := (hC.on hR3).wantsU pl_cm hP3 _ hb3
  rw [World.size_alloc] at hW4
  obtain ⟨t3, ht3⟩ : ∃ t3, w3.heap.size = t3 := ⟨_, rfl⟩
  clear hc1 hP2 hP3 hR2 hk2 hk2' h2 hk3 hk3' hN1
  rw [ht3] at hW4 q4 hz3
  refine Lib.hid ?_
  go_wp2_with (go_at_call 82; refine hW4.mono ?_; rintro e w5 (⟨rfl, hle, rfl, hk5⟩ | ⟨hP5, rfl, hR5, hk5⟩); (exact ⟨rfl, close_pan rfl hle (hk4.trans hk5)⟩); (try dsimp only at hP5); have hk5' := hk4.trans hk5; have p3 := hk5.box q4 (by omega); have p2 := hk5.box g3' (by omega); have hN5 := hN1'.keep hk5 (fun q hq _ => by omega))
  have hz5 := block_lt p3
  have hC5 := hC.on hR5
  have hc6 := fun u (h : Ctx u B ts (j1 + 1)) => callU hP5 (fun r0 h0 => hE r0 B ts (j1 + 1) u h h0)
  clear ht3 hW4 hP5 hk5 hk4 q4 g3' hN1' g3 g2 hR3 hb3
  go_cut [4] (fun s4 wx => ∃ t4 n2 j2, s4 = .pointer (some ⟨t4, 0, none⟩) ∧ PB w wx B ts 26 n1 n2 t4 j2 ∧ need S.rp (rest ts j2) (fun l => .ok (nd 26 [n1, n2]) l) = some r)
  case first =>
    obtain ⟨c0, c1, c2, c3, f0, f1, f2, f3⟩ := in4 p3
    obtain ⟨x0, x1, x2, x3, y0, y1, y2, y3⟩ := in4a p3
    go_region_with (first
      | (go_at_call 130; refine (hc6 _ (hC5.below ((Below.refl _ _).drew))).mono ?_; rintro e w6 (⟨j, rfl, hle, rfl, hk6⟩ | ⟨n2, j2, b2, cap2, hP6, rfl, hN6, hR6, hk6⟩); (exact ⟨rfl, close_pan rfl hle ((hk5'.drew).trans hk6)⟩); have g3 := hk6.box p3 (by omega); have g2 := hk6.box p2 (by omega); obtain ⟨c0, c1, c2, c3, f0, f1, f2, f3⟩ := in4 g3; obtain ⟨x0, x1, x2, x3, y0, y1, y2, y3⟩ := in4a g3; have hNx : NdV (fun q => w.heap.size < q) w6 n1 (ndv n1 b1 cap1) := (hN5.below ((Below.refl _ _).drew)).keep hk6 (fun q hq _ => by omega); have hNy : NdV (fun q => w.heap.size < q) w6 n2 (ndv n2 b2 cap2) := hN6.weak (fun q hq _ => by simp at hq; omega); have hk6' := (hk5'.drew).trans hk6)
      | (go_at_call 130; refine (hc6 _ (hC5.below ((ext_alloc (Below.refl _ _) zbx).drew))).mono ?_; rintro e w6 (⟨j, rfl, hle, rfl, hk6⟩ | ⟨n2, j2, b2, cap2, hP6, rfl, hN6, hR6, hk6⟩); (exact ⟨rfl, close_pan rfl hle (((hk5'.alloc zbx).drew).trans hk6)⟩); have g3 := hk6.box (W := (w5.alloc zbx).drew) (block_alloc zbx p3) (by omega); have g2 := hk6.box (W := (w5.alloc zbx).drew) (block_alloc zbx p2) (by omega); have g4 := hk6.box (W := (w5.alloc zbx).drew) (alloc_new w5 zbx) (by omega); obtain ⟨c0, c1, c2, c3, f0, f1, f2, f3⟩ := in4 g3; obtain ⟨x0, x1, x2, x3, y0, y1, y2, y3⟩ := in4a g3; obtain ⟨u0, u1, u2, u3, v0, v1, v2, v3⟩ := in4a g4; have hNx : NdV (fun q => w.heap.size < q ∧ q ≠ w5.heap.size) w6 n1 (ndv n1 b1 cap1) := ((hN5.weak (S' := fun q => w.heap.size < q ∧ q ≠ w5.heap.size) (fun q hq hlt => ⟨hq, by omega⟩)).below ((ext_alloc (Below.refl _ _) zbx).drew)).keep hk6 (fun q hq _ => by omega); have hNy : NdV (fun q => w.heap.size < q ∧ q ≠ w5.heap.size) w6 n2 (ndv n2 b2 cap2) := hN6.weak (fun q hq _ => by simp at hq; omega); have hk6' := ((hk5'.alloc zbx).drew).trans hk6))
    all_goals
      go_wp2
      go_meet
      case rel => first
        | exact ⟨_, n2, j2, rfl, pb_A 26 hNx hNy g2 hR6 hk6', hP6⟩
        | exact ⟨_, n2, j2, rfl, pb_C 26 hNx hNy g2 hR6 hk6', hP6⟩
        | exact ⟨_, n2, j2, rfl, pb_B 26 hNx hNy g2 g4 (by omega) hBw hR6 hk6', hP6⟩
  case rest =>
    obtain ⟨t4, n2, j2, rfl, hPB, hr⟩ := hcut
    obtain ⟨b4, cap4, q4, hRow4, hown4⟩ := hPB.box
    have q2 := hPB.ans
    have hz4 := hPB.lt
    have hW7 := (hC.on hPB.R).wantsU pl_rp hr wc (Below.refl _ _)
    have hNN := hRow4.node 26 [] 0
    clear hc6 hr p3 p2 hN5 hk5'
    go_wp2_with (go_at_call 82; refine hW7.mono ?_; rintro e w8 (⟨rfl, hle, rfl, hk8⟩ | ⟨hP8, rfl, hR8, hk8⟩); (exact ⟨rfl, close_pan rfl hle (hPB.K.trans hk8)⟩); have g4 := hk8.box q4 (by omega); have g2 := hk8.box q2 (by omega); obtain ⟨c0, c1, c2, c3, f0, f1, f2, f3⟩ := in4 g4; obtain ⟨d0, d1, d2, d3, e0, e1, e2, e3⟩ := in4 g2)
    refine bodyPost_ret (res180 rfl (put4_same _ _ _ _ g2)) rfl ?_
    obtain rfl := Option.some.inj hP8
    exact close_ret (N := nd 26 [n1, n2]) rfl ((hNN.keep hk8 (fun q hq _ => by omega)).weak (fun q hq _ => ⟨.inr (by omega), by omega⟩)) hR8 (hPB.K.trans hk8) (Nat.le_refl _) hBw
end Go.Proofs.YtnnppenlfocgiaaGreatDoor
namespace Go.Proofs.YtnnppenlfocgiaaGreatDoor
open Go.RowKit
open Go

theorem num_valid {t : List UInt8} (h : valid (2, t)) : Lib.parseIntB 64 t = .ok (numV t : Int) ∧ t.length ≤ 4000 := by
  have h1 := h.1
  have hb : bytesOf (2, t) = t := by unfold bytesOf; rw [if_neg (show ¬ (2 : Int) = 3 by decide)]
  rw [hb] at h1
  simp only at h1
  cases t with
  | nil => simp [tokR] at h1
  | cons c r =>
    unfold tokR at h1
    simp only at h1
    split at h1
    · split at h1
      · cases h1
      · exact absurd (TokR.inj h1).1 (by decide)
    split at h1
    · split at h1
      · rename_i hn
        obtain ⟨_, _, e3⟩ := TokR.inj h1
        rw [e3, List.take_length] at hn
        unfold numE at hn
        split at hn
        · exact absurd hn (by decide)
        rename_i ha
        split at hn
        · exact absurd hn (by decide)
        rename_i h0
        split at hn
        · exact absurd hn (by decide)
        rename_i hm
        have ha' : (c :: r).all digB = true := by simpa using ha
        refine ⟨by rw [parse_digits _ (by simp) ha', if_neg hm], ?_⟩
        have : ¬ 19 < (c :: r).length := fun h => hm ((num_big _ ha' h0).2 (.inl h))
        omega
      · cases h1
    split at h1
    · split at h1
      · split at h1
        · cases h1
        · exact absurd (TokR.inj h1).1 (by decide)
      · cases h1
    split at h1
    · cases h1
    · exact absurd (TokR.inj h1).1 (by decide)

theorem atom_look (s : List UInt8) : atomsKV.lookup s = if s = W.nil_ then some (ik 15) else if s = W.true_ then some (ik 16) else if s = W.false_ then some (ik 17) else none := by
  unfold atomsKV
  simp only [List.lookup_cons, List.lookup_nil]
  by_cases h1 : s = W.nil_
  · subst h1; rfl
  by_cases h2 : s = W.true_
  · subst h2; rfl
  by_cases h3 : s = W.false_
  · subst h3; rfl
  rw [if_neg h1, if_neg h2, if_neg h3, beq_false_of_ne h1, beq_false_of_ne h2, beq_false_of_ne h3]
theorem wd_some {ts : List Tok} {i : Nat} {x : Tok} (h : ts[i]? = some x) (h3 : ¬ x.k = 3) : wd ts i = x.t := by
  unfold wd; rw [h]; simp only; rw [if_neg h3]
/-- What is read if it is no such token. -/
def afterLit (f : Nat) (l : List PT) : PR :=
  if tx l = S.lc then need S.rc l.tail fun l => .ok (nd 19 []) l
  else if tx l = W.next_ then need S.lp l.tail fun l => (P f 0 nil0 0 l).on fun x l => need S.cm l fun l => (P f 0 nil0 0 l).on fun y l => need S.rp l fun l => .ok (nd 26 [x, y]) l
  else if tx l = S.lp then (P f 0 nil0 0 l.tail).on fun n l => need S.rp l fun l => .ok n l
  else needName l fun s l => .ok ⟨18, s, 0, []⟩ l
theorem lit_any (f : Nat) (r : PRes) (B : Nat) (ts : List Tok) (i : Nat) (w : World) (hC : Ctx w B ts i) (hP : P (f + 1) 3 nil0 0 (rest ts i) = some r) :
    (∃ N, r = .inr (N, rest ts (i + 1)) ∧ N.kids = [] ∧ ∀ u, Ctx u B ts i → Calls Tryz.prog 152 #[.pointer (some ⟨B, 0, none⟩)] u (LU u B ts N true (i + 1))) ∨
    (∃ q, afterLit f (rest ts i) = some r ∧ ∀ u, Ctx u B ts i → Calls Tryz.prog 152 #[.pointer (some ⟨B, 0, none⟩)] u (LU u B ts (nd q []) false i)) := by
  cases hx : ts[i]? with
  | none =>
    have hre := rest_end (List.getElem?_eq_none_iff.1 hx)
    have hwd : wd ts i = [] := by unfold wd; rw [hx]
    refine .inr ⟨0, ?_, fun u hu => lit_none B ts i 0 [] 0 u hu (tokH_none hx) (by decide) (by decide) 0 (by rw [hwd]; rfl) (by rw [hwd]; rfl)⟩
    rw [hre] at hP ⊢
    rw [P] at hP
    unfold afterLit
    rw [if_neg (by decide), if_neg (by decide), if_neg (by decide)]
    unfold needName
    rw [if_neg (by decide)]
    exact hP
  | some x =>
    have hre := rest_cons hx
    have hi := (List.getElem?_eq_some_iff.1 hx).1
    have hv : valid (pt x) := hC.V (pt x) (List.mem_map.2 ⟨x, List.mem_of_getElem? hx, rfl⟩)
    have hVx := tokH_some hx
    rw [hre] at hP
    rw [P] at hP
    simp only at hP
    by_cases h2 : x.k = 2
    · rw [if_pos h2] at hP
      obtain rfl := Option.some.inj hP
      have hv2 : valid (2, x.t) := by rw [← h2]; exact hv
      obtain ⟨hp, hl⟩ := num_valid hv2
      have hd : ∃ c r', x.t = c :: r' ∧ digB c = true := by
        rcases kinds_of_valid hv2 with ⟨h, _⟩ | ⟨_, h⟩ | h | ⟨h, _⟩
        · omega
        · exact h
        · omega
        · omega
      have hn : atomsKV.lookup (wd ts i) = none := by
        rw [wd_some hx (by omega), atom_look]
        obtain ⟨c, r', e, hd⟩ := hd
        rw [e]
        have q : ∀ a b, digB a = false → ¬ c :: r' = a :: b := fun a b h e => by
          have := (List.cons.inj e).1
          subst this
          rw [h] at hd; cases hd
        rw [if_neg (q _ _ rfl), if_neg (q _ _ rfl), if_neg (q _ _ rfl)]
      exact .inl ⟨_, rfl, rfl, fun u hu => lit_num B ts i x.t (x.a : Nat) u hu (by rw [hVx, h2]) hi hl _ hp 0 false (by rw [hn]; rfl) (by rw [hn]; rfl)⟩
    rw [if_neg h2] at hP
    by_cases h3 : x.k = 3
    · rw [if_pos h3] at hP
      obtain rfl := Option.some.inj hP
      have hw : wd ts i = [] := by unfold wd; rw [hx]; simp only; rw [if_pos h3]
      exact .inl ⟨_, rfl, rfl, fun u hu => lit_text B ts i x.t (x.a : Nat) u hu (by rw [hVx, h3]) hi 0 false (by rw [hw]; rfl) (by rw [hw]; rfl)⟩
    rw [if_neg h3] at hP
    have htx : tx (pt x :: rest ts (i + 1)) = x.t := by unfold tx; simp only; rw [if_neg (by omega)]
    have hw := wd_some hx h3
    rw [htx] at hP
    have atom := fun q (hq : atomsKV.lookup x.t = some (ik q)) u hu => lit_atom B ts i x.k x.t (x.a : Nat) u hu hVx h2 h3 hi q (by rw [hw, hq]; rfl) (by rw [hw, hq]; rfl)
    by_cases a1 : x.t = W.nil_
    · refine .inl ⟨_, ?_, rfl, atom 15 (by rw [atom_look, if_pos a1])⟩
      rw [a1, if_neg (by decide), if_pos rfl] at hP
      exact (Option.some.inj hP).symm
    by_cases a2 : x.t = W.true_
    · refine .inl ⟨_, ?_, rfl, atom 16 (by rw [atom_look, if_neg a1, if_pos a2])⟩
      rw [a2, if_neg (by decide), if_neg (by decide), if_pos rfl] at hP
      exact (Option.some.inj hP).symm
    by_cases a3 : x.t = W.false_
    · refine .inl ⟨_, ?_, rfl, atom 17 (by rw [atom_look, if_neg a1, if_neg a2, if_pos a3])⟩
      rw [a3, if_neg (by decide), if_neg (by decide), if_neg (by decide), if_pos rfl] at hP
      exact (Option.some.inj hP).symm
    have hn : atomsKV.lookup (wd ts i) = none := by rw [hw, atom_look, if_neg a1, if_neg a2, if_neg a3]
    refine .inr ⟨0, ?_, fun u hu => lit_none B ts i x.k x.t (x.a : Nat) u hu hVx h2 h3 0 (by rw [hn]; rfl) (by rw [hn]; rfl)⟩
    rw [if_neg a1, if_neg a2, if_neg a3] at hP
    rw [hre]
    unfold afterLit
    rw [htx, List.tail_cons]
    by_cases b1 : x.t = S.lc
    · rw [b1, if_neg (by decide), if_pos rfl] at hP
      rw [if_pos b1]; exact hP
    by_cases b2 : x.t = W.next_
    · rw [b2, if_neg (by decide), if_neg (by decide), if_pos rfl] at hP
      rw [if_neg b1, if_pos b2]; exact hP
    by_cases b3 : x.t = S.lp
    · rw [if_pos b3] at hP
      rw [if_neg b1, if_neg b2, if_pos b3]; exact hP
    rw [if_neg b3, if_neg b1, if_neg b2] at hP
    rw [if_neg b1, if_neg b2, if_neg b3]; exact hP
end Go.Proofs.YtnnppenlfocgiaaGreatDoor
