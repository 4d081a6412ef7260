/- The document's Go. -/
import Derived.Test.YthpgbienakcbeaaGreatDoorR51
import Derived.Test.YthpgbienakcbeaaGreatDoorR50
namespace Go.Proofs.YthpgbienakcbeaaGreatDoor
open Go.RowKit Go
set_option maxRecDepth 100000
set_option maxHeartbeats 8000000
set_option linter.all false
section
variable [DecidableEq Vl]
theorem FD.dc {W0 W X : World} {F fc T tc U uc n0 lo : Nat} {fw : List Fw} {tw : List Tw} {s : St} (h : FD n0 lo W F fc T tc U uc fw tw s) (hlo : W0.heap.size ≤ lo) (hb : Below W0.heap.size W0 W) (hX : Below W.heap.size W X)
  (hx : X.heap[W.heap.size]? = some (stb (.slice (some ⟨F, 0, none⟩) s.fr.length fc) (.slice (some ⟨T, 0, none⟩) s.tb.length tc) (.slice (some ⟨U, 0, none⟩) s.out.length uc) s)) :
  Dc W0 ⟨W.heap.size, F, fc, T, tc, U, uc, fw, tw, []⟩ s X := by
 have hlt : ∀ k ∈ F :: T :: U :: fw.map Fw.g, k < W.heap.size := fun k hk => by
  rcases List.mem_cons.1 hk with rfl | hk
  ·exact h.fo.lt
  rcases List.mem_cons.1 hk with rfl | hk
  ·exact h.to.lt
  rcases List.mem_cons.1 hk with rfl | hk
  ·exact h.uo.lt
  obtain ⟨q, hq, rfl⟩ := List.mem_map.1 hk
  exact (h.rg q hq).lt
 have hno : ∀ k, k < W.heap.size → k ∉ (F :: T :: U :: fw.map Fw.g) → k ∉ (W.heap.size :: F :: T :: U :: fw.map Fw.g) ++ [] := fun k h1 h2 h3 => by
  rw [List.append_nil] at h3
  rcases List.mem_cons.1 h3 with rfl | h3
  ·omega
  exact h2 h3
 refine ⟨hx, h.fo.same (hX.block _ h.fo.lt), h.to.same (hX.block _ h.to.lt), h.uo.same (hX.block _ h.uo.lt), fun q hq => (h.rg q hq).same (hX.block _ (h.rg q hq).lt), h.hf, h.ht, fun q hq => ⟨(h.tr q hq).1.onTo hX hno, (h.tr q hq).2.onTo hX hno⟩, fun k hk => (by cases hk), ?_, fun k hk => ?_, ext_trans hb hX⟩
 ·exact List.nodup_cons.2 ⟨fun hk => Nat.lt_irrefl _ (hlt _ hk), h.nd⟩
 ·rcases List.mem_cons.1 hk with rfl | hk
  ·exact hb.size
  ·exact Nat.le_trans hlo (h.lo k hk)
theorem Dc.scratch {w0 : World} {p : Mp} {s : St} {W W' : World} (h : Dc w0 p s W) {L : List Nat} (hL : ∀ k ∈ L, k < w0.heap.size) (hap : ∀ k ∈ L, k ∈ p.ap) (hs : W.heap.size ≤ W'.heap.size) (hk : ∀ b, b ∉ L → b < W.heap.size → W'.heap[b]? = W.heap[b]?) : StIn W'.heap.size W' (.slice (some ⟨p.F, 0, none⟩) s.fr.length p.fc) (.slice (some ⟨p.T, 0, none⟩) s.tb.length p.tc) (.slice (some ⟨p.U, 0, none⟩) s.out.length p.uc) s := by
 have hob : ∀ b ∈ p.own, W'.heap[b]? = W.heap[b]? := fun b hb => hk b (fun e => by have := h.lo b hb; have := hL b e; omega) (h.lt b hb)
 have fo := h.fo.same (hob _ own_F)
 have to := h.to.same (hob _ (by simp [Mp.own]))
 have uo := h.uo.same (hob _ own_U)
 have hrw : ∀ {sv : Value} {xs : List Vl}, Rw W (p.own ++ p.ap) sv xs → Row W'.heap.size W' sv xs := fun {sv xs} hr => by
  obtain ⟨a, cap, e, hl, hx⟩ := hr
  refine ⟨a, cap, e, hl, fun hne => ?_⟩
  obtain ⟨b, off, ea, hn, hbl, hc'⟩ := hx hne
  have hbb := hk b (fun e => hn (List.mem_append_right _ (hap b e))) hbl
  refine ⟨b, off, ea, by omega, fun j x hj => ?_⟩
  obtain ⟨t0, t1, t2⟩ := hc' j x hj
  exact ⟨(World.cell?_of_block (a := ⟨b, _, none⟩) hbb).trans t0, (World.cell?_of_block (a := ⟨b, _, none⟩) hbb).trans t1, (World.cell?_of_block (a := ⟨b, _, none⟩) hbb).trans t2⟩
 refine ⟨⟨_, _, rfl, h.fo.max, fun _ => ⟨p.F, 0, rfl, fo.lt, fun j x hx => ?_⟩⟩, ⟨_, _, rfl, h.to.max, fun _ => ⟨p.T, 0, rfl, to.lt, fun j x hx => ?_⟩⟩, ⟨_, _, rfl, h.uo.max, fun _ => ⟨p.U, 0, rfl, uo.lt, fun j x hx => ?_⟩⟩⟩
 ·rw [← h.hf, List.getElem?_map] at hx
  obtain ⟨q, hq, rfl⟩ := Option.map_eq_some_iff.1 hx
  obtain ⟨e0, e1, e2, e3⟩ := frCells_at hq
  rw [Nat.zero_add]
  have hq' := List.mem_of_getElem? hq
  exact ⟨(fo.cell e0).1, (fo.cell e1).1, (fo.cell e2).1, _, (fo.cell e3).1, ((h.rg q hq').same (hob _ (own_g hq'))).row⟩
 ·rw [← h.ht, List.getElem?_map] at hx
  obtain ⟨q, hq, rfl⟩ := Option.map_eq_some_iff.1 hx
  obtain ⟨e0, e1⟩ := tbCells_at hq
  rw [Nat.zero_add]
  have ht := h.tr q (List.mem_of_getElem? hq)
  exact ⟨_, _, (to.cell e0).1, (to.cell e1).1, hrw ht.1, hrw ht.2⟩
 ·rw [Nat.zero_add]
  exact (uo.cell (by rw [List.getElem?_map, hx]; rfl)).1
structure GD (w1 : World) (F : Int → Vl → Vl → Vl × Int) (fs : List Fd) (fuel : Nat) (R : GS) (B : Nat) (L : List Nat) (k : Nat) (wr : World) : Prop where
 ex : ∃ (p : Mp) (t : GS), p.B = B ∧ (∀ k ∈ L, k ∈ p.ap) ∧ Dc w1 p t.1 wr ∧ Good fs t.1 ∧ goP (stepS F fs) liveS stS fuel k t = R ∧ fuel ≤ stS t + k
theorem res13 {tm : Array Value} {W : World} {B : Nat} {a b c d e f g h i : Value} (hp : tm[6]?.getD undef = .pointer (some ⟨B, 0, none⟩)) (hx : W.heap[B]? = some (.cells #[a, b, c, d, e, f, g, h, i] 32)) : (results Tryz.f13 tm).run Tryz.prog W = .ok (.agg #[a, b, c, d, e, f, g, h, i]) W := by
 obtain ⟨d0, d1, d2, d3, d4, d5, d6, d7, d8⟩ := nine hx
 simp [results, Tryz.results13, go_sem, hp, d0, d1, d2, d3, d4, d5, d6, d7, d8]
theorem Dc.apart1 {w0 : World} {p : Mp} {s : St} {W : World} (h : Dc w0 p s W) {L : List Nat} {n : Nat} (hL : ∀ k ∈ L, n ≤ k ∧ k < w0.heap.size) (hr : ∀ q ∈ p.tw, Row n W q.a q.t.ks ∧ Row n W q.b q.t.vs) : Dc w0 { p with ap := L } s W := by
 have hw : ∀ {sv : Value} {xs : List Vl}, Row n W sv xs → Rw W (p.own ++ p.ap) sv xs → Rw W (p.own ++ L) sv xs := fun {sv xs} h1 h2 => by
  obtain ⟨a, cap, e, hl, hx⟩ := h2
  obtain ⟨a', cap', e', hl', hx'⟩ := h1
  refine ⟨a, cap, e, hl, fun hne => ?_⟩
  obtain ⟨b, off, ea, hb, hbl, hc'⟩ := hx hne
  obtain ⟨b', off', ea', hb', _⟩ := hx' hne
  rw [e] at e'
  cases e'
  rw [ea] at ea'
  cases ea'
  refine ⟨b, off, ea, fun hk => ?_, hbl, hc'⟩
  rcases List.mem_append.1 hk with hk | hk
  ·exact hb (List.mem_append_left _ hk)
  ·have := hL b hk
   omega
 exact ⟨h.box, h.fo, h.to, h.uo, h.rg, h.hf, h.ht, fun q hq => ⟨hw (hr q hq).1 (h.tr q hq).1, hw (hr q hq).2 (h.tr q hq).2⟩, fun k hk => ⟨Nat.lt_of_lt_of_le (hL k hk).2 h.bl.size, fun e => by have := h.lo _ e; have := hL k hk; omega⟩, h.nd, h.lo, h.bl⟩
theorem stv_eq {fv tv ov : Value} {t : St} {st en : Int} (h1 : t.en = en) (h2 : t.st = st) : Ending.returned (.agg #[fv, tv, ov, .int .i64 st, .int .i64 en, .int .i64 t.er, .int .i64 t.la.k, .int .i64 t.la.n, .string t.la.s]) = .returned (stv fv tv ov t) := by
 subst h1 h2
 rfl
theorem rgo_any {F : Int → Vl → Vl → Vl × Int} (hOp : OpF F) {ca : Option Addr} {cc : Nat} {fs : List Fd} {mn : Int} {fuel : Nat} (hfu : fuel ≤ 60000) {fv tv ov : Value} {s : GS} (W : World) (hT : PTab W) (hF : RowF W.heap.size W ca fs) (hS : StIn W.heap.size W fv tv ov s.1) (hp : progB fs mn = true) (hg : Good fs s.1) (n0 : Nat) (hn0 : n0 ≤ W.heap.size) (hT0 : RowTb n0 W tv s.1.tb) (A : List Nat) (hA : ∀ k ∈ A, n0 ≤ k ∧ k < W.heap.size) (t : St) (htt : t = (goT F fs fuel s).1) :
  Calls Tryz.prog 13 #[PV ca fs.length cc mn, stv fv tv ov s.1, .int .i64 fuel] W fun r w' => ∃ fv' tv' ov', r = .returned (stv fv' tv' ov' t) ∧ (∀ V : World, w'.heap.size ≤ V.heap.size → (∀ b, b ∉ A → b < w'.heap.size → V.heap[b]? = w'.heap[b]?) → StIn V.heap.size V fv' tv' ov' t) ∧ Below W.heap.size W w' := by
 obtain ⟨w1, hw1⟩ : ∃ w1, ((W.alloc (.cells #[.slice ca fs.length cc, .int .i64 mn] 24)).alloc (stb fv tv ov s.1)).alloc zst = w1 := ⟨_, rfl⟩
 have E1 : Below W.heap.size W w1 := by rw [← hw1]; exact ext_alloc (ext_alloc (ext_alloc (Below.refl _ _) _) _) _
 have g0 : w1.heap[W.heap.size]? = some (.cells #[.slice ca fs.length cc, .int .i64 mn] 24) := by
  rw [← hw1]; exact blk_below (ext_alloc (ext_alloc (Below.refl _ _) _) _) (heap_new _ _)
 have g1 : w1.heap[W.heap.size + 1]? = some (stb fv tv ov s.1) := by
  rw [← hw1]; exact blk_below (ext_alloc (Below.refl _ _) _) (new2' W _ _)
 have g2 : w1.heap[W.heap.size + 1 + 1]? = some zst := by rw [← hw1]; simpa using heap_new ((W.alloc _).alloc _) _
 have hrs : ∀ x ∈ s.1.fr, 1 ≤ x.rs.length ∧ x.rs.length ≤ 1000 := fun x hx => by
  obtain ⟨f, f1, _, _, _, f5, _⟩ := hg.fg x hx
  have hk := prog_fn hp f1
  have := hk.r1
  have := hk.r2
  omega
 have hout : s.1.out.length ≤ 60000 := by have := hg.o1; have := hg.s2; omega
 have q1 : ∀ u, Below W.heap.size W u → Calls Tryz.prog 33 #[stv fv tv ov s.1] u _ := fun u hu => copy_any fv tv ov s.1 u (hS.at hu) n0 (Nat.le_trans hn0 hu.size) (hT0.below (hu.mono hn0)) hg.n1 hg.n2 hrs hg.t2 hout
 have q3 : ∀ (p : Mp) (t : GS) (W' : World), Dc w1 p t.1 W' → Good fs t.1 → t.1.st < 60000 → Calls Tryz.prog 34 #[PV ca fs.length cc mn, .pointer (some ⟨p.B, 0, none⟩)] W' (EndQ w1 p.B p.ap (stepR F fs t.1)) := fun p t W' hM hG h60 => dstep_any hOp hp ⟨ca, cc, rfl, hF.at E1⟩ (hT.on E1) hM hG h60
 have hgt : Good fs t := by rw [htt]; exact goP_good hOp hp hfu _ s hg
 obtain ⟨fa, fc, rfl, _, _⟩ := hS.f
 obtain ⟨ta, tc, rfl, _, _⟩ := hS.t
 obtain ⟨oa, oc, rfl, _, _⟩ := hS.o
 have hsg : ∀ t : GS, Good fs t.1 → t.1.en = 0 → t.1.st < 60000 → Good fs (stepS F fs t).1 := fun t h1 h2 h3 => step_good hOp hp h1 h2 h3
 obtain ⟨nf, hnf⟩ : ∃ n, fs.length = n := ⟨_, rfl⟩
 obtain ⟨n1, hn1⟩ : ∃ n, s.1.fr.length = n := ⟨_, rfl⟩
 obtain ⟨n2, hn2⟩ : ∃ n, s.1.tb.length = n := ⟨_, rfl⟩
 obtain ⟨n3, hn3⟩ : ∃ n, s.1.out.length = n := ⟨_, rfl⟩
 rw [hnf] at q3 g0 hw1 ⊢
 rw [hn1, hn2, hn3] at q1 g1 hw1 ⊢
 clear hF hS hnf hrs hout
 replace hn1 : Hid _ := hn1
 replace hn2 : Hid _ := hn2
 replace hn3 : Hid _ := hn3
 replace q1 : Hid _ := q1
 replace q3 : Hid _ := q3
 replace hsg : Hid _ := hsg
 have a0 := cell_block (i := 0) g0 rfl
 have a1 := cell_block (i := 1) g0 rfl
 obtain ⟨b0, b1, b2, b3, b4, b5, b6, b7, b8⟩ := nine g1
 go_enter Tryz.func13, Tryz.ntmps13
 go_wp2_with (go_at_call 33; refine (q1.out w1 E1).mono ?_; rintro e w2 ⟨F', fc', T', tc', U', uc', fw, tw, rfl, hFD, hb2⟩; refine Hid.out ?_)
 refine Lib.hid ?_
 clear a0 a1 b0 b1 b2 b3 b4 b5 b6 b7 b8
 have gz : (w2.alloc zst).heap[w2.heap.size]? = some zst := heap_new _ _
 obtain ⟨wz, hwz⟩ : ∃ wz, w2.alloc zst = wz := ⟨_, rfl⟩
 have Ez : Below w2.heap.size w2 wz := by rw [← hwz]; exact ext_alloc (Below.refl _ _) _
 rw [hwz] at gz
 obtain ⟨w3, hw3⟩ : ∃ w3, set9 wz w2.heap.size (.slice (some ⟨F', 0, none⟩) n1 fc') (.slice (some ⟨T', 0, none⟩) n2 tc') (.slice (some ⟨U', 0, none⟩) n3 uc') (.int .i64 s.1.st) (.int .i64 s.1.en) (.int .i64 s.1.er) (.int .i64 s.1.la.k) (.int .i64 s.1.la.n) (.string s.1.la.s) = w3 := ⟨_, rfl⟩
 have g3 : w3.heap[w2.heap.size]? = some (stb (.slice (some ⟨F', 0, none⟩) n1 fc') (.slice (some ⟨T', 0, none⟩) n2 tc') (.slice (some ⟨U', 0, none⟩) n3 uc') s.1) := by rw [← hw3]; exact set9_block gz
 have E3 : Below w2.heap.size w2 w3 := by rw [← hw3]; exact set9_below Ez (Nat.le_refl _) _ _ _ _ _ _ _ _ _
 have lc : W.heap.size + 1 + 1 < w1.heap.size := block_lt g2
 have lw2 : W.heap.size ≤ w2.heap.size := by have := hb2.size; omega
 have hLL : ∀ k ∈ (W.heap.size + 1 + 1) :: A, n0 ≤ k ∧ k < w1.heap.size := fun k hk => by
  rcases List.mem_cons.1 hk with rfl | hk
  ·omega
  ·have := hA k hk; omega
 have hD3 : ∃ p : Mp, p.B = w2.heap.size ∧ (∀ k ∈ (W.heap.size + 1 + 1) :: A, k ∈ p.ap) ∧ Dc w1 p s.1 w3 := by
  have h0 := hFD.dc (W0 := w1) (X := w3) (Nat.le_refl _) hb2 E3 (by rw [hn1.out, hn2.out, hn3.out]; exact g3)
  exact ⟨_, rfl, fun _ hk => hk, h0.apart1 (L := (W.heap.size + 1 + 1) :: A) (n := n0) hLL (fun q hq => ⟨(hFD.rw q hq).1.below (E3.mono (by omega)), (hFD.rw q hq).2.below (E3.mono (by omega))⟩)⟩
 obtain ⟨p, hpB, hpa, hM⟩ := hD3
 have hR : goP (stepS F fs) liveS stS fuel fuel s = goT F fs fuel s := rfl
 obtain ⟨R, hRR⟩ : ∃ R, goT F fs fuel s = R := ⟨_, rfl⟩
 rw [hRR] at hR htt
 have hI : GD w1 F fs fuel R w2.heap.size ((W.heap.size + 1 + 1) :: A) fuel w3 := ⟨p, s, hpB, hpa, hM, hg, hR, by omega⟩
 obtain ⟨z0, z1, z2, z3, z4, z5, z6, z7, z8⟩ := nine gz
 obtain ⟨y0, y1, y2, y3, y4, y5, y6, y7, y8⟩ := frz gz
 unfold set9 at hw3
 clear hM hR hRR hg hw1 hFD
 replace hI : Hid _ := hI
 go_wp2
 clear z0 z1 z2 z3 z4 z5 z6 z7 z8 y0 y1 y2 y3 y4 y5 y6 y7 y8 hw3 hwz
 obtain ⟨B, hB⟩ : ∃ B, w2.heap.size = B := ⟨_, rfl⟩
 rw [hB] at hI ⊢
 go_loopg [10] fuel (fun k _ wr => GD w1 F fs fuel R B ((W.heap.size + 1 + 1) :: A) k wr)
 case atStart => exact hI.out
 case round =>
  clear hI
  obtain ⟨p, x, rfl, hpa, hM, hg, hR, hk⟩ := hrel.ex
  clear hrel
  obtain ⟨j0, j1, j2, c3, c4, j5⟩ := hM.cells
  clear j0 j1 j2 j5
  obtain ⟨st, hst⟩ : ∃ st, x.1.st = st := ⟨_, rfl⟩
  obtain ⟨en, hen⟩ : ∃ en, x.1.en = en := ⟨_, rfl⟩
  rw [hst] at c3
  rw [hen] at c4
  have gw0 := blk_below hM.bl g0
  have a0 := cell_block (i := 0) gw0 rfl
  have a1 := cell_block (i := 1) gw0 rfl
  by_cases hgo : en = 0 ∧ st < fuel
  ·obtain ⟨h1, h2⟩ := hgo
   have h6 : (en == 0) = true := by simpa using h1
   have hs2 := x.2
   rw [hst] at hs2
   have hk0 : 0 < gk := by
    have : stS x = st.toNat := by rw [← hst]; rfl
    omega
   obtain ⟨k', rfl⟩ : ∃ k', gk = k' + 1 := ⟨gk - 1, by omega⟩
   have hl : liveS x = true ∧ stS x < fuel := ⟨by simp [liveS, hen, h1], by show x.1.st.toNat < fuel; omega⟩
   have hnx : ∀ W' p', p'.B = p.B → (∀ k ∈ p.ap, k ∈ p'.ap) → Dc w1 p' (stepR F fs x.1) W' → GD w1 F fs fuel R p.B ((W.heap.size + 1 + 1) :: A) k' W' := fun W' p' e e' hM' => ⟨p', stepS F fs x, e, fun k hk => e' k (hpa k hk), hM', hsg.out x hg (by rw [hen]; exact h1) (by omega), by rw [goP, if_pos hl] at hR; exact hR, by rw [stepS_st]; omega⟩
   have hstep := q3.out p x wr hM hg (by omega)
   replace hnx : Hid _ := hnx
   clear hM hg hR hk hl hst hen h1 hk0 hs2
   go_wp2_with (go_at_call 34; refine hstep.mono ?_; rintro e w4 ⟨rfl, p', e1, e2, hM4⟩)
   go_roundg k'
   case measure => omega
   case rel => exact hnx.out _ p' e1 e2 hM4
  ·have hs2 := x.2
   have hl : ¬ (liveS x = true ∧ stS x < fuel) := fun hl => hgo ⟨by rw [← hen]; simpa [liveS] using hl.1, by have := hl.2; unfold stS at this; omega⟩
   rw [goP_stop hl] at hR
   rw [← hR] at htt
   rw [← htt] at hM hg
   have gc : wr.heap[W.heap.size + 1 + 1]? = some zst := blk_below hM.bl g2
   have gb := hM.box
   clear c3 c4
   obtain ⟨m0, m1, m2, m3, m4, m5, m6, m7, m8⟩ := nine gb
   obtain ⟨x0, x1, x2, x3, x4, x5, x6, x7, x8⟩ := nine gc
   obtain ⟨z00, z01, z02, z03, z04, z05, z06, z07, z08⟩ := frz gc
   have em : t.en = en := by rw [htt]; exact hen
   have es : t.st = st := by rw [htt]; exact hst
   obtain ⟨t1, ht1⟩ : ∃ n, t.fr.length = n := ⟨_, rfl⟩
   obtain ⟨t2, ht2⟩ : ∃ n, t.tb.length = n := ⟨_, rfl⟩
   obtain ⟨t3, ht3⟩ : ∃ n, t.out.length = n := ⟨_, rfl⟩
   obtain ⟨er, her⟩ : ∃ n, t.er = n := ⟨_, rfl⟩
   obtain ⟨lk, hlk⟩ : ∃ n, t.la.k = n := ⟨_, rfl⟩
   obtain ⟨ln, hln⟩ : ∃ n, t.la.n = n := ⟨_, rfl⟩
   obtain ⟨ls, hls⟩ : ∃ n, t.la.s = n := ⟨_, rfl⟩
   rw [ht1] at m0
   rw [ht2] at m1
   rw [ht3] at m2
   rw [her] at m5
   rw [hlk] at m6
   rw [hln] at m7
   rw [hls] at m8
   have hV : Ending.returned (.agg #[.slice (some ⟨p.F, 0, none⟩) t1 p.fc, .slice (some ⟨p.T, 0, none⟩) t2 p.tc, .slice (some ⟨p.U, 0, none⟩) t3 p.uc, .int .i64 st, .int .i64 en, .int .i64 er, .int .i64 lk, .int .i64 ln, .string ls]) = .returned (stv (.slice (some ⟨p.F, 0, none⟩) t.fr.length p.fc) (.slice (some ⟨p.T, 0, none⟩) t.tb.length p.tc) (.slice (some ⟨p.U, 0, none⟩) t.out.length p.uc) t) := by
    rw [← ht1, ← ht2, ← ht3, ← her, ← hlk, ← hln, ← hls]
    exact stv_eq em es
   obtain ⟨Y, hY⟩ : ∃ Y, set9 wr (W.heap.size + 1 + 1) (.slice (some ⟨p.F, 0, none⟩) t1 p.fc) (.slice (some ⟨p.T, 0, none⟩) t2 p.tc) (.slice (some ⟨p.U, 0, none⟩) t3 p.uc) (.int .i64 st) (.int .i64 en) (.int .i64 er) (.int .i64 lk) (.int .i64 ln) (.string ls) = Y := ⟨_, rfl⟩
   have P1 : Y.heap[W.heap.size + 1 + 1]? = some (.cells #[.slice (some ⟨p.F, 0, none⟩) t1 p.fc, .slice (some ⟨p.T, 0, none⟩) t2 p.tc, .slice (some ⟨p.U, 0, none⟩) t3 p.uc, .int .i64 st, .int .i64 en, .int .i64 er, .int .i64 lk, .int .i64 ln, .string ls] 32) := by rw [← hY]; exact set9_block gc
   have E5 : Below W.heap.size W Y := by rw [← hY]; exact set9_below (ext_trans E1 hM.bl) (by omega) _ _ _ _ _ _ _ _ _
   have hSt : ∀ V : World, Y.heap.size ≤ V.heap.size → (∀ b, b ∉ A → b < Y.heap.size → V.heap[b]? = Y.heap[b]?) → StIn V.heap.size V (.slice (some ⟨p.F, 0, none⟩) t.fr.length p.fc) (.slice (some ⟨p.T, 0, none⟩) t.tb.length p.tc) (.slice (some ⟨p.U, 0, none⟩) t.out.length p.uc) t := fun V hV hk => by
    have hYs : Y.heap.size = wr.heap.size := by rw [← hY]; simp [set9]
    refine hM.scratch (L := (W.heap.size + 1 + 1) :: A) (fun k hk => (hLL k hk).2) hpa (by omega) (fun b hb hbl => ?_)
    simp only [List.mem_cons, not_or] at hb
    refine (hk b hb.2 (by omega)).trans ?_
    rw [← hY]
    exact set9_oth hb.1 _ _ _ _ _ _ _ _ _
   rw [em] at m4
   rw [es] at m3
   replace hSt : Hid _ := hSt
   replace em : Hid _ := em
   replace es : Hid _ := es
   unfold set9 at hY
   replace hV : Hid _ := hV
   clear hM hg hR hk hl hst hen hs2 htt hgt ht1 ht2 ht3 her hlk hln hls gb
   have hd : (en == 0) = false ∨ ((en == 0) = true ∧ decide (st < fuel) = false) := by
    by_cases h : en = 0
    ·right
     exact ⟨by simpa using h, by simp; by_cases h2 : st < fuel; exact absurd ⟨h, h2⟩ hgo; omega⟩
    ·left
     simpa using h
   clear hgo
   rcases hd with h6 | ⟨h6, h5⟩
   all_goals
    go_wp2
    exact bodyPost_ret (res13 (B := W.heap.size + 1 + 1) rfl P1) rfl ⟨_, _, _, hV.out, hSt.out, E5⟩
theorem beg_stin {n r F g : Nat} {W : World} (hO : OwnR W g 30 3 r r (flat (List.replicate r nilV))) (hF : W.heap[F]? = some (.cells #[.int .i64 (n : Nat), .int .i64 0, .int .i64 0, .slice (some ⟨g, 0, none⟩) r r] 50)) : StIn W.heap.size W (.slice (some ⟨F, 0, none⟩) 1 1) (.slice none 0 0) (.slice none 0 0) (begS n r) := by
 refine ⟨⟨_, _, rfl, by simp [begS, maxLen], fun _ => ⟨F, 0, rfl, block_lt hF, fun j x hx => ?_⟩⟩, ⟨_, _, rfl, by simp [begS], fun h => absurd rfl h⟩, ⟨_, _, rfl, by simp [begS], fun h => absurd rfl h⟩⟩
 match j, hx with
 | 0, hx =>
  cases hx
  refine ⟨cell_block hF rfl, cell_block hF rfl, cell_block hF rfl, _, cell_block hF rfl, ?_⟩
  have hO' : OwnR W g 30 3 (List.replicate r nilV).length r (flat (List.replicate r nilV)) := by rw [List.length_replicate]; exact hO
  have := hO'.row
  rw [List.length_replicate] at this
  exact this
 | j + 1, hx => simp [begS] at hx
theorem beg_good {fs : List Fd} {n r : Nat} {f : Fd} (hp : progB fs n = true) (hf : fs[n]? = some f) (hr : f.r = r) : Good fs (begS n r) := by
 have hk := prog_fn hp hf
 have hi := hk.i1
 refine ⟨by simp [begS], by simp [begS], ⟨by simp, by simp, trivial⟩, fun x hx => ?_, by simp [begS], fun t ht => by simp [begS] at ht, by simp [begS], by simp [begS], by simp [begS], fun t ht => by simp [begS] at ht, .inl ⟨rfl, rfl, rfl⟩⟩
 simp only [begS, List.mem_singleton] at hx
 subst hx
 refine ⟨f, by simpa using hf, by simp, by simp, by show (0 : Int) < _; omega, by simp [hr], fun v hv => ?_⟩
 obtain rfl := List.eq_of_mem_replicate hv
 exact VG.nil _ _
theorem main_of {fs : List Fd} {mn : Int} (hp : progB fs mn = true) : ∃ (n : Nat) (f : Fd), mn = n ∧ fs[n]? = some f := by
 simp only [progB, Bool.and_eq_true, belB, decide_eq_true_eq] at hp
 have h1 := hp.1.1.2
 refine ⟨mn.toNat, fs[mn.toNat]'(by omega), by omega, List.getElem?_eq_getElem _⟩
theorem good_cap {fs : List Fd} {s : St} (h : Good fs s) : ∀ t ∈ s.tb, t.ks.length ≤ 1000 ∧ t.vs.length ≤ 1000 := fun t ht => by
 obtain ⟨h1, h2⟩ := mayT_len (h.tg t ht).m
 omega
theorem set9k {V : World} {B k j : Nat} {a b c d e f g h i : Value} (hk : ¬ k = B) : (((((((((V.setCell ⟨B, 0, none⟩ a).setCell ⟨B, 1, none⟩ b).setCell ⟨B, 2, none⟩ c).setCell ⟨B, 3, none⟩ d).setCell ⟨B, 4, none⟩ e).setCell ⟨B, 5, none⟩ f).setCell ⟨B, 6, none⟩ g).setCell ⟨B, 7, none⟩ h).setCell ⟨B, 8, none⟩ i).cell? ⟨k, j, none⟩ = V.cell? ⟨k, j, none⟩ := World.cell?_of_block (a := ⟨k, j, none⟩) (set9_oth hk a b c d e f g h i)
theorem runs_ok {b off cc n r : Nat} {fs : List Fd} (fuel : Nat) (hm : fuel ≤ 4000) (W : World) (hT : PTab W) (hF : RowF W.heap.size W (some ⟨b, off, none⟩) fs) (hp : progB fs n = true) (hn : n < fs.length) (d1 : W.cell? ⟨b, off + n * 4 + 1, none⟩ = some (.int .i64 (r : Nat))) (hr : r ≤ 250) (hgb : Good fs (begS n r)) :
  Calls Tryz.prog 4 #[PV (some ⟨b, off, none⟩) fs.length cc n, .int .i64 fuel] W fun r w' => r = .returned (.bool true) ∧ Below W.heap.size W w' := by
 obtain ⟨F, hOp⟩ := opF_ex
 obtain ⟨w1, hw1⟩ : ∃ w1, W.alloc (.cells #[.slice (some ⟨b, off, none⟩) fs.length cc, .int .i64 (n : Nat)] 24) = w1 := ⟨_, rfl⟩
 have E1 : Below W.heap.size W w1 := by rw [← hw1]; exact ext_alloc (Below.refl _ _) _
 have g0 : w1.heap[W.heap.size]? = some (.cells #[.slice (some ⟨b, off, none⟩) fs.length cc, .int .i64 (n : Nat)] 24) := by rw [← hw1]; exact heap_new _ _
 obtain ⟨s0, hs0⟩ : ∃ s0 : GS, s0.1 = begS n r := ⟨⟨begS n r, by simp [begS]⟩, rfl⟩
 obtain ⟨y, hy⟩ : ∃ y, goT F fs fuel s0 = y := ⟨_, rfl⟩
 have hgy : Good fs y.1 := by rw [← hy]; exact goP_good hOp hp (by omega) _ _ (by rw [hs0]; exact hgb)
 have hb0 : stB1 fs n s0.1 = true := stB1_iff.2 ⟨hp, by rw [hs0]; exact hgb⟩
 have q9 : ∀ u, Below w1.heap.size w1 u → Calls Tryz.prog 9 #[PV (some ⟨b, off, none⟩) fs.length cc n] u _ := fun u hu => rcode_any (some ⟨b, off, none⟩) cc fs n u ((hF.at E1).at hu)
 have qm : ∀ u, Below w1.heap.size w1 u → Calls Tryz.prog 15 #[PV (some ⟨b, off, none⟩) fs.length cc n] u _ := fun u hu => may_prog (some ⟨b, off, none⟩) cc fs n u ((hF.at E1).at hu)
 rw [hp] at q9 qm
 have q8 : ∀ u, Below w1.heap.size w1 u → Calls Tryz.prog 8 #[PV (some ⟨b, off, none⟩) fs.length cc n] u _ := fun u hu => begin_cells b off fs.length cc n r u hn (cellB (ext_trans E1 hu) d1) hr (fun v hv => qm v (ext_trans hu hv))
 have q11 : ∀ u, Below w1.heap.size w1 u → Calls Tryz.prog 11 #[PV (some ⟨b, off, none⟩) fs.length cc n] u _ := fun u hu => rbegin_cells b off fs.length cc n r u hn (cellB (ext_trans E1 hu) d1) hr
 have q12 : ∀ (a b' c : Value) (u : World), Below w1.heap.size w1 u → StIn u.heap.size u a b' c s0.1 → Calls Tryz.prog 12 #[PV (some ⟨b, off, none⟩) fs.length cc n, stv a b' c s0.1, .int .i64 fuel] u _ := fun a b' c u hu hI => go_ok hOp (fuel := fuel) (by omega) u (hT.on (ext_trans E1 hu)) ((hF.at E1).at hu) hI hb0 y.1 (by rw [hy])
 have q13' : ∀ (a c : Value) (v u : World), Below w1.heap.size w1 u → Below v.heap.size v u → StIn u.heap.size u a (.slice none 0 0) c s0.1 → Calls Tryz.prog 13 #[PV (some ⟨b, off, none⟩) fs.length cc n, stv a (.slice none 0 0) c s0.1, .int .i64 fuel] u fun e w' => ∃ i1 j1 i2 j2 i3 j3, e = .returned (stv (.slice i1 y.1.fr.length j1) (.slice i2 y.1.tb.length j2) (.slice i3 y.1.out.length j3) y.1) ∧ (∀ V : World, w'.heap.size ≤ V.heap.size → (∀ b, b < v.heap.size ∨ u.heap.size ≤ b → b < w'.heap.size → V.heap[b]? = w'.heap[b]?) → StIn V.heap.size V (.slice i1 y.1.fr.length j1) (.slice i2 y.1.tb.length j2) (.slice i3 y.1.out.length j3) y.1) ∧ Below u.heap.size u w' := fun a c v u hu hvu hI => by
  have hr0 : RowTb 0 u (.slice none 0 0) s0.1.tb := by rw [hs0]; exact ⟨none, 0, rfl, by simp [begS], fun h => absurd rfl h⟩
  have hmem : ∀ k, k ∈ List.range' v.heap.size (u.heap.size - v.heap.size) → v.heap.size ≤ k ∧ k < u.heap.size := fun k hk => by
   have := List.mem_range'_1.1 hk
   have := hvu.size
   omega
  refine (rgo_any hOp (fuel := fuel) (by omega) u (hT.on (ext_trans E1 hu)) ((hF.at E1).at hu) hI hp (by rw [hs0]; exact hgb) 0 (Nat.zero_le _) hr0 (List.range' v.heap.size (u.heap.size - v.heap.size)) (fun k hk => ⟨Nat.zero_le _, (hmem k hk).2⟩) y.1 (by rw [hy])).mono ?_
  rintro e w' ⟨x1, x2, x3, h1, h2, h3⟩
  have h2' := h2 w' (Nat.le_refl _) (fun _ _ _ => rfl)
  obtain ⟨i1, j1, rfl, _, _⟩ := h2'.f
  obtain ⟨i2, j2, rfl, _, _⟩ := h2'.t
  obtain ⟨i3, j3, rfl, _, _⟩ := h2'.o
  exact ⟨i1, j1, i2, j2, i3, j3, h1, fun V hV hk => h2 V hV (fun b hb hbl => hk b (by by_cases hc : b < v.heap.size; exact .inl hc; exact .inr (by by_cases hd : u.heap.size ≤ b; exact hd; exact absurd (List.mem_range'_1.2 ⟨by omega, by omega⟩) hb)) hbl), h3⟩
 have q10 : ∀ (a b' c a' b'' c' : Value) (u : World), StIn u.heap.size u a b' c y.1 → StIn u.heap.size u a' b'' c' y.1 → Calls Tryz.prog 10 #[stv a b' c y.1, stv a' b'' c' y.1] u _ := fun a b' c a' b'' c' u h h' => rstate_same a b' c a' b'' c' y.1 u h h' (good_cap hgy)
 have sb : ∀ {F g : Nat} {W : World}, OwnR W g 30 3 r r (flat (List.replicate r nilV)) → W.heap[F]? = some (.cells #[.int .i64 (n : Nat), .int .i64 0, .int .i64 0, .slice (some ⟨g, 0, none⟩) r r] 50) → StIn W.heap.size W (.slice (some ⟨F, 0, none⟩) 1 1) (.slice none 0 0) (.slice none 0 0) s0.1 := fun h1 h2 => by rw [hs0]; exact beg_stin h1 h2
 have sy : ∀ {lo : Nat} {W : World} {F fc T tc U uc : Nat} {fw : List Fw} {tw : List Tw}, FS lo W F fc T tc U uc fw tw y.1 → _ := fun h => h.stin
 obtain ⟨nf, hnf⟩ : ∃ n, fs.length = n := ⟨_, rfl⟩
 obtain ⟨y1, hy1⟩ : ∃ n, y.1.fr.length = n := ⟨_, rfl⟩
 obtain ⟨y2, hy2⟩ : ∃ n, y.1.tb.length = n := ⟨_, rfl⟩
 obtain ⟨y3, hy3⟩ : ∃ n, y.1.out.length = n := ⟨_, rfl⟩
 rw [← hs0] at q8 q11
 rw [hnf] at q8 q9 q11 q12 q13' g0 hw1 ⊢
 rw [hy1, hy2, hy3] at q12 q13' sy
 obtain ⟨Z, hZ⟩ : ∃ Z, y.1 = Z := ⟨_, rfl⟩
 obtain ⟨S, hSS⟩ : ∃ S, s0.1 = S := ⟨_, rfl⟩
 rw [hZ] at q10 q12 q13' sy
 rw [hSS] at q8 q11 q12 q13' sb
 clear hF hnf hp hgb hs0 hy hgy hb0 qm hy1 hy2 hy3 hZ hSS hOp hn d1
 have hC : ∀ u, Below w1.heap.size w1 u → u.cell? ⟨W.heap.size, 0, none⟩ = some (.slice (some ⟨b, off, none⟩) nf cc) ∧ u.cell? ⟨W.heap.size, 1, none⟩ = some (.int .i64 (n : Nat)) := fun u hu => ⟨cellB hu (cell_block g0 rfl), cellB hu (cell_block g0 rfl)⟩
 obtain ⟨a0, a1⟩ := hC w1 (Below.refl _ _)
 replace hC : Hid _ := hC
 replace q8 : Hid _ := q8
 replace q9 : Hid _ := q9
 replace q10 : Hid _ := q10
 replace q11 : Hid _ := q11
 replace q12 : Hid _ := q12
 have q13 : Hid _ := q13'
 clear q13'
 have d1 : decide ((fuel : Int) < 0) = false := by simp
 have d3 : decide ((4000 : Int) < fuel) = false := by simp; omega
 clear g0
 go_enter Tryz.func4, Tryz.ntmps4
 go_wp2_with (first | (go_at_call 9; refine (q9.out _ (Below.refl _ _)).mono ?_; rintro e u0 ⟨rfl, hb0⟩; obtain ⟨A0, A1⟩ := hC.out u0 hb0) | (go_at_call 8; refine (q8.out _ hb0).mono ?_; rintro e u1 ⟨F1, g1, rfl, hO1, hF1, _, _, _, hb1⟩; refine Hid.out ?_))
 refine Lib.hid ?_
 clear a0 a1 A0 A1 hw1
 have s1 := sb hO1 hF1
 clear hO1 hF1
 have N1 := ext_trans hb0 hb1
 obtain ⟨v1, hv1⟩ : ∃ v, u1.alloc (stb (.slice (some ⟨F1, 0, none⟩) 1 1) (.slice none 0 0) (.slice none 0 0) S) = v := ⟨_, rfl⟩
 have Q1 : Below u1.heap.size u1 v1 := by rw [← hv1]; exact ext_alloc (Below.refl _ _) _
 have P1 : Below w1.heap.size w1 v1 := ext_trans N1 Q1
 have G1 : v1.heap[u1.heap.size]? = some (stb (.slice (some ⟨F1, 0, none⟩) 1 1) (.slice none 0 0) (.slice none 0 0) S) := by rw [← hv1]; exact heap_new _ _
 obtain ⟨a0, a1⟩ := hC.out v1 P1
 obtain ⟨b0, b1, b2, b3, b4, b5, b6, b7, b8⟩ := nine G1
 have c12 := fun u hu => q12.out _ _ _ u (ext_trans P1 hu) ((s1.at Q1).at hu)
 replace c12 : Hid _ := c12
 go_wp2_with (go_at_call 12; refine (c12.out _ (Below.refl _ _)).mono ?_; rintro e u2 ⟨F2, f2, T2, t2, U2, p2, fw2, tw2, rfl, hY2, hb2⟩; refine Hid.out ?_)
 refine Lib.hid ?_
 clear a0 a1 b0 b1 b2 b3 b4 b5 b6 b7 b8 hv1
 have sy2 := sy hY2
 clear hY2
 obtain ⟨v2, hv2⟩ : ∃ v, u2.alloc (stb (.slice (some ⟨F2, 0, none⟩) y1 f2) (.slice (some ⟨T2, 0, none⟩) y2 t2) (.slice (some ⟨U2, 0, none⟩) y3 p2) Z) = v := ⟨_, rfl⟩
 have Q2 : Below u2.heap.size u2 v2 := by rw [← hv2]; exact ext_alloc (Below.refl _ _) _
 have P2 : Below w1.heap.size w1 v2 := ext_trans (ext_trans P1 hb2) Q2
 have G2 : v2.heap[u2.heap.size]? = some (stb (.slice (some ⟨F2, 0, none⟩) y1 f2) (.slice (some ⟨T2, 0, none⟩) y2 t2) (.slice (some ⟨U2, 0, none⟩) y3 p2) Z) := by rw [← hv2]; exact heap_new _ _
 have sy2' := sy2.at Q2
 obtain ⟨a0, a1⟩ := hC.out v2 P2
 have l2 : u2.heap.size < v2.heap.size := block_lt G2
 have c11 : ∀ u, Below v2.heap.size v2 u → _ := fun u hu => q11.out u (ext_trans P2 hu)
 replace c11 : Hid _ := c11
 have hCv : ∀ u, Below v2.heap.size v2 u → u.cell? ⟨W.heap.size, 0, none⟩ = some (.slice (some ⟨b, off, none⟩) nf cc) ∧ u.cell? ⟨W.heap.size, 1, none⟩ = some (.int .i64 (n : Nat)) := fun u hu => hC.out u (ext_trans P2 hu)
 replace hCv : Hid _ := hCv
 have c13 : ∀ (F g : Nat) (v u : World), Below v2.heap.size v2 v → OwnR v g 30 3 r r (flat (List.replicate r nilV)) → v.heap[F]? = some (.cells #[.int .i64 (n : Nat), .int .i64 0, .int .i64 0, .slice (some ⟨g, 0, none⟩) r r] 50) → Below v.heap.size v u → _ := fun F g v u hv h1 h2 hu => q13.out (.slice (some ⟨F, 0, none⟩) 1 1) (.slice none 0 0) v2 u (ext_trans P2 (ext_trans hv hu)) (ext_trans hv hu) ((sb h1 h2).at hu)
 replace c13 : Hid _ := c13
 have lW : W.heap.size < w1.heap.size := lt_cell (hC.out w1 (Below.refl _ _)).1
 have x1 : ¬ W.heap.size = v2.heap.size := by have := P2.size; omega
 have x1' : ¬ v2.heap.size = W.heap.size := by have := P2.size; omega
 go_wp2
 go_region_held3 (fun u => u.cell? ⟨W.heap.size, 0, none⟩ = some (.slice (some ⟨b, off, none⟩) nf cc) ∧ u.cell? ⟨W.heap.size, 1, none⟩ = some (.int .i64 (n : Nat))) (first | go_keep | exact ⟨(set9k (by assumption)).trans s0, (set9k (by assumption)).trans s1⟩) (first | (go_at_call 11; refine (c11.out _ (by repeat (first | with_reducible exact Below.refl _ _ | with_reducible refine ext_drew ?_ | with_reducible refine ext_alloc ?_ _))).mono ?_; rintro e w7 ⟨F7, g7, rfl, hO7, hF7, _, _, _, hb7⟩; have N7 : Below v2.heap.size v2 w7 := ext_trans (by repeat (first | with_reducible exact Below.refl _ _ | with_reducible refine ext_drew ?_ | with_reducible refine ext_alloc ?_ _)) hb7; obtain ⟨s0, s1⟩ := hCv.out w7 N7; have x7 : ¬ W.heap.size = w7.heap.size := (by have := N7.size; have := P2.size; omega); (first | (have gK : w7.heap[v2.heap.size]? = some zst := blk_below hb7 (heap_new v2.drew zst)) | skip)) | (go_at_call 13; refine (c13.out F7 g7 w7 _ N7 hO7 hF7 (by repeat (first | with_reducible exact Below.refl _ _ | with_reducible refine ext_drew ?_ | with_reducible refine ext_alloc ?_ _))).mono ?_; rintro e w8 ⟨i1, j1, i2, j2, i3, j3, rfl, hst8, hb8⟩; have N8 : Below v2.heap.size v2 w8 := ext_trans (ext_trans N7 (by repeat (first | with_reducible exact Below.refl _ _ | with_reducible refine ext_drew ?_ | with_reducible refine ext_alloc ?_ _))) hb8; obtain ⟨s0, s1⟩ := hCv.out w8 N8; have x8 : ¬ W.heap.size = w8.heap.size := (by have := N8.size; have := P2.size; omega); (first | (have gK8 : w8.heap[v2.heap.size]? = some zst := blk_below hb8 gK) | (have gK8 : w8.heap[w7.heap.size]? = some zst := blk_below hb8 (heap_new w7 zst)) | skip); (first | (have nK := nine gK8; have zK := frz gK8; have k0 := nK.1; have k1 := nK.2.1; have k2 := nK.2.2.1; have k3 := nK.2.2.2.1; have k4 := nK.2.2.2.2.1; have k5 := nK.2.2.2.2.2.1; have k6 := nK.2.2.2.2.2.2.1; have k7 := nK.2.2.2.2.2.2.2.1; have k8 := nK.2.2.2.2.2.2.2.2; have z0 := zK.1; have z1 := zK.2.1; have z2 := zK.2.2.1; have z3 := zK.2.2.2.1; have z4 := zK.2.2.2.2.1; have z5 := zK.2.2.2.2.2.1; have z6 := zK.2.2.2.2.2.2.1; have z7 := zK.2.2.2.2.2.2.2.1; have z8 := zK.2.2.2.2.2.2.2.2; clear nK zK) | skip)))
 ·obtain ⟨Y, hY⟩ : ∃ Y, w8.alloc (stb (.slice i1 y1 j1) (.slice i2 y2 j2) (.slice i3 y3 j3) Z) = Y := ⟨_, rfl⟩
  have gY : Y.heap[w8.heap.size]? = some (stb (.slice i1 y1 j1) (.slice i2 y2 j2) (.slice i3 y3 j3) Z) := by rw [← hY]; exact heap_new _ _
  have BY : Below v2.heap.size v2 Y := by rw [← hY]; exact ext_alloc N8 _
  have sY := hst8 Y (by rw [← hY]; simp) (fun b _ hb => by rw [← hY]; exact (ext_alloc (Below.refl w8.heap.size w8) _).block b hb)
  have s2 := sy2'.at BY
  obtain ⟨m0, m1, m2, m3, m4, m5, m6, m7, m8⟩ := nine gY
  obtain ⟨e0, e1, e2, e3, e4, e5, e6, e7, e8⟩ := nine (blk_below BY G2)
  have c10 := q10.out _ _ _ _ _ _ Y s2 sY
  have c10' : Hid (∀ u, u = Y → Calls Tryz.prog 10 #[stv (.slice (some ⟨F2, 0, none⟩) y1 f2) (.slice (some ⟨T2, 0, none⟩) y2 t2) (.slice (some ⟨U2, 0, none⟩) y3 p2) Z, stv (.slice i1 y1 j1) (.slice i2 y2 j2) (.slice i3 y3 j3) Z] u _) := fun u e => by subst e; exact c10
  clear c10
  go_wp2_with (go_at_call 10; refine (c10'.out _ rfl).mono ?_; rintro e u5 ⟨rfl, hb5⟩)
  go_ret
  exact ⟨rfl, ext_trans E1 (ext_trans P2 (ext_trans BY hb5))⟩
 ·have lK : v2.heap.size ≤ w7.heap.size := by have := N7.size; omega
  obtain ⟨Y, hY⟩ : ∃ Y, set9 w8 w7.heap.size (.slice i1 y1 j1) (.slice i2 y2 j2) (.slice i3 y3 j3) (.int .i64 Z.st) (.int .i64 Z.en) (.int .i64 Z.er) (.int .i64 Z.la.k) (.int .i64 Z.la.n) (.string Z.la.s) = Y := ⟨_, rfl⟩
  have gY : Y.heap[w7.heap.size]? = some (stb (.slice i1 y1 j1) (.slice i2 y2 j2) (.slice i3 y3 j3) Z) := by rw [← hY]; exact set9_block gK8
  have BY : Below v2.heap.size v2 Y := by rw [← hY]; exact set9_below N8 lK _ _ _ _ _ _ _ _ _
  have sY := hst8 Y (by rw [← hY]; simp [set9]) (fun b hb _ => by rw [← hY]; exact set9_oth (fun e => by simp at hb; omega) _ _ _ _ _ _ _ _ _)
  unfold set9 at hY
  have s2 := sy2'.at BY
  obtain ⟨m0, m1, m2, m3, m4, m5, m6, m7, m8⟩ := nine gY
  obtain ⟨e0, e1, e2, e3, e4, e5, e6, e7, e8⟩ := nine (blk_below BY G2)
  have c10 := q10.out _ _ _ _ _ _ Y s2 sY
  have c10' : Hid (∀ u, u = Y → Calls Tryz.prog 10 #[stv (.slice (some ⟨F2, 0, none⟩) y1 f2) (.slice (some ⟨T2, 0, none⟩) y2 t2) (.slice (some ⟨U2, 0, none⟩) y3 p2) Z, stv (.slice i1 y1 j1) (.slice i2 y2 j2) (.slice i3 y3 j3) Z] u _) := fun u e => by subst e; exact c10
  clear c10
  go_wp2_with (go_at_call 10; refine (c10'.out _ rfl).mono ?_; rintro e u5 ⟨rfl, hb5⟩)
  go_ret
  exact ⟨rfl, ext_trans E1 (ext_trans P2 (ext_trans BY hb5))⟩
 ·have lK : v2.heap.size ≤ v2.heap.size := by have := N7.size; omega
  obtain ⟨Y, hY⟩ : ∃ Y, set9 w8 v2.heap.size (.slice i1 y1 j1) (.slice i2 y2 j2) (.slice i3 y3 j3) (.int .i64 Z.st) (.int .i64 Z.en) (.int .i64 Z.er) (.int .i64 Z.la.k) (.int .i64 Z.la.n) (.string Z.la.s) = Y := ⟨_, rfl⟩
  have gY : Y.heap[v2.heap.size]? = some (stb (.slice i1 y1 j1) (.slice i2 y2 j2) (.slice i3 y3 j3) Z) := by rw [← hY]; exact set9_block gK8
  have BY : Below v2.heap.size v2 Y := by rw [← hY]; exact set9_below N8 lK _ _ _ _ _ _ _ _ _
  have sY := hst8 Y (by rw [← hY]; simp [set9]) (fun b hb _ => by rw [← hY]; exact set9_oth (fun e => by have := block_lt gK; omega) _ _ _ _ _ _ _ _ _)
  unfold set9 at hY
  have s2 := sy2'.at BY
  obtain ⟨m0, m1, m2, m3, m4, m5, m6, m7, m8⟩ := nine gY
  obtain ⟨e0, e1, e2, e3, e4, e5, e6, e7, e8⟩ := nine (blk_below BY G2)
  have c10 := q10.out _ _ _ _ _ _ Y s2 sY
  have c10' : Hid (∀ u, u = Y → Calls Tryz.prog 10 #[stv (.slice (some ⟨F2, 0, none⟩) y1 f2) (.slice (some ⟨T2, 0, none⟩) y2 t2) (.slice (some ⟨U2, 0, none⟩) y3 p2) Z, stv (.slice i1 y1 j1) (.slice i2 y2 j2) (.slice i3 y3 j3) Z] u _) := fun u e => by subst e; exact c10
  clear c10
  go_wp2_with (go_at_call 10; refine (c10'.out _ rfl).mono ?_; rintro e u5 ⟨rfl, hb5⟩)
  go_ret
  exact ⟨rfl, ext_trans E1 (ext_trans P2 (ext_trans BY hb5))⟩
theorem runs_idle (ca : Option Addr) (cn cc : Nat) (mn fuel : Int) (pb : Bool) (W : World) (q9 : ∀ u, Below W.heap.size W u → Calls Tryz.prog 9 #[PV ca cn cc mn] u fun e w' => e = .returned (.bool pb) ∧ Below u.heap.size u w') (h : pb = false ∨ fuel < 0 ∨ 4000 < fuel) :
  Calls Tryz.prog 4 #[PV ca cn cc mn, .int .i64 fuel] W fun r w' => r = .returned (.bool true) ∧ Below W.heap.size W w' := by
 have E1 := ext_alloc (Below.refl W.heap.size W) (.cells #[.slice ca cn cc, .int .i64 mn] 24)
 have q9' := q9 _ E1
 clear q9
 cases pb with
 | false =>
  clear h
  go_enter Tryz.func4, Tryz.ntmps4
  go_wp2_with (go_at_call 9; refine q9'.mono ?_; rintro e u0 ⟨rfl, hb0⟩)
  go_ret
  exact ⟨rfl, ext_trans E1 hb0⟩
 | true =>
  cases d1 : decide (fuel < 0) with
  | true =>
   clear h
   go_enter Tryz.func4, Tryz.ntmps4
   go_wp2_with (go_at_call 9; refine q9'.mono ?_; rintro e u0 ⟨rfl, hb0⟩)
   go_ret
   exact ⟨rfl, ext_trans E1 hb0⟩
  | false =>
   have d3 : decide (4000 < fuel) = true := by simp at d1 ⊢; rcases h with h | h | h; cases h; omega; omega
   clear h
   go_enter Tryz.func4, Tryz.ntmps4
   go_wp2_with (go_at_call 9; refine q9'.mono ?_; rintro e u0 ⟨rfl, hb0⟩)
   go_ret
   exact ⟨rfl, ext_trans E1 hb0⟩
theorem runs_any {ca : Option Addr} {cc : Nat} {fs : List Fd} {mn : Int} (fuel : Int) (W : World) (hT : PTab W) (hF : RowF W.heap.size W ca fs) :
  Calls Tryz.prog 4 #[PV ca fs.length cc mn, .int .i64 fuel] W fun r w' => r = .returned (.bool true) ∧ Below W.heap.size W w' := by
 have q9 : ∀ u, Below W.heap.size W u → Calls Tryz.prog 9 #[PV ca fs.length cc mn] u fun e w' => e = .returned (.bool (progB fs mn)) ∧ Below u.heap.size u w' := fun u hu => rcode_any ca cc fs mn u (hF.at hu)
 by_cases hp : progB fs mn = true
 ·by_cases h1 : 0 ≤ fuel ∧ fuel ≤ 4000
  ·obtain ⟨k, rfl⟩ : ∃ k : Nat, fuel = k := ⟨fuel.toNat, by omega⟩
   obtain ⟨n, f, rfl, hf⟩ := main_of hp
   have hn := (List.getElem?_eq_some_iff.1 hf).1
   have hk := prog_fn hp hf
   have r1 := hk.r1
   have r2 := hk.r2
   obtain ⟨r, hr⟩ : ∃ r : Nat, f.r = r := ⟨f.r.toNat, by omega⟩
   obtain ⟨b, off, rfl, hb, hel⟩ := hF.2 (fun e => by rw [e] at hn; simp at hn)
   have d1 := (hel n f hf).1.r
   rw [hr] at d1
   exact runs_ok k (by omega) W hT hF hp hn d1 (by omega) (beg_good hp hf hr)
  ·exact runs_idle ca fs.length cc mn fuel _ W q9 (.inr (by omega))
 ·exact runs_idle ca fs.length cc mn fuel _ W q9 (.inl (by simpa using hp))
end
end Go.Proofs.YthpgbienakcbeaaGreatDoor
