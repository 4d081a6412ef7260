/- The document's Go. -/
import Derived.Test.YthpgbienakcbeaaGreatDoorS51
import Derived.Test.YthpgbienakcbeaaGreatDoorS50
namespace Go.Proofs.YthpgbienakcbeaaGreatDoor
open Go.RowKit Go
set_option maxRecDepth 100000
set_option maxHeartbeats 8000000
set_option linter.all false
variable {W w0 w : World} {F fc tc B n nf cc n1 nt no oc : Nat} {s : St} {p : Mp} {L : List Nat} {a : Act} {c : Code} {ca fa ta oa : Option Addr} {mn st en er lk ln p2 : Int} {ls : ByteArray} {K : Exit → Act → World → Prop} {p7 : Bool} {fv tv ov : Value} {fs : List Fd}
section
variable [DecidableEq Vl]
theorem FD.dc {W0 X : World} {T U uc n0 lo : Nat} {fw : List Fw} {tw : List Tw} (h : FD n0 lo W F fc T tc U uc fw tw s) (hlo : W0.heap.size ≤ lo) (hb : Below W0.heap.size W0 W) (hX : Below W.heap.size W X) (hx : X.heap[W.heap.size]? = some (stb (.slice (some ⟨F, 0, none⟩) s.fr.length fc) (.slice (some ⟨T, 0, none⟩) s.tb.length tc) (.slice (some ⟨U, 0, none⟩) s.out.length uc) s)) :
  Dc W0 ⟨W.heap.size, F, fc, T, tc, U, uc, fw, tw, []⟩ s X := by
 have hlt : ∀ k ∈ F :: T :: U :: fw.map Fw.g, k < W.heap.size := fun k hk => by
  rcases List.mem_cons.1 hk with rfl | hk
  ·exact h.fo.lt
  rcases List.mem_cons.1 hk with rfl | hk
  ·exact h.to.lt
  rcases List.mem_cons.1 hk with rfl | hk
  ·exact h.uo.lt
  obtain ⟨q, hq, rfl⟩ := List.mem_map.1 hk
  exact (h.rg q hq).lt
 have hno : ∀ k, k < W.heap.size → k ∉ (F :: T :: U :: fw.map Fw.g) → k ∉ (W.heap.size :: F :: T :: U :: fw.map Fw.g) ++ [] := fun k h1 h2 h3 => by
  rw [List.append_nil] at h3
  rcases List.mem_cons.1 h3 with rfl | h3
  ·omega
  exact h2 h3
 refine ⟨hx, h.fo.same (hX.block _ h.fo.lt), h.to.same (hX.block _ h.to.lt), h.uo.same (hX.block _ h.uo.lt), fun q hq => (h.rg q hq).same (hX.block _ (h.rg q hq).lt), h.hf, h.ht, fun q hq => ⟨(h.tr q hq).1.onTo hX hno, (h.tr q hq).2.onTo hX hno⟩, fun k hk => (by cases hk), ?_, fun k hk => ?_, a0b hb hX⟩
 ·exact List.nodup_cons.2 ⟨fun hk => Nat.lt_irrefl _ (hlt _ hk), h.nd⟩
 ·rcases List.mem_cons.1 hk with rfl | hk
  ·exact hb.size
  ·exact Nat.le_trans hlo (h.lo k hk)
theorem Dc.scratch {W' : World} (h : Dc w0 p s W) (hL : ∀ k ∈ L, k < w0.heap.size) (hap : ∀ k ∈ L, k ∈ p.ap) (hs : W.heap.size ≤ W'.heap.size) (hk : ∀ b, b ∉ L → b < W.heap.size → W'.heap[b]? = W.heap[b]?) : StIn W'.heap.size W' (.slice (some ⟨p.F, 0, none⟩) s.fr.length p.fc) (.slice (some ⟨p.T, 0, none⟩) s.tb.length p.tc) (.slice (some ⟨p.U, 0, none⟩) s.out.length p.uc) s := by
 have hob : ∀ b ∈ p.own, W'.heap[b]? = W.heap[b]? := fun b hb => hk b (fun e => by have := h.lo b hb; have := hL b e; omega) (h.lt b hb)
 have fo := h.fo.same (hob _ a2f)
 have to := h.to.same (hob _ (by simp [Mp.own]))
 have uo := h.uo.same (hob _ a4v)
 have hrw : ∀ {sv : Value} {xs : List Vl}, Rw W (p.own ++ p.ap) sv xs → Row W'.heap.size W' sv xs := fun {sv xs} hr => by
  obtain ⟨a, cap, e, hl, hx⟩ := hr
  refine ⟨a, cap, e, hl, fun hne => ?_⟩
  obtain ⟨b, off, ea, hn, hbl, hc'⟩ := hx hne
  have hbb := hk b (fun e => hn (List.mem_append_right _ (hap b e))) hbl
  refine ⟨b, off, ea, by omega, fun j x hj => ?_⟩
  obtain ⟨t0, t1, t2⟩ := hc' j x hj
  exact ⟨(World.cell?_of_block (a := ⟨b, _, none⟩) hbb).trans t0, (World.cell?_of_block (a := ⟨b, _, none⟩) hbb).trans t1, (World.cell?_of_block (a := ⟨b, _, none⟩) hbb).trans t2⟩
 refine ⟨⟨_, _, rfl, h.fo.max, fun _ => ⟨p.F, 0, rfl, fo.lt, fun j x hx => ?_⟩⟩, ⟨_, _, rfl, h.to.max, fun _ => ⟨p.T, 0, rfl, to.lt, fun j x hx => ?_⟩⟩, ⟨_, _, rfl, h.uo.max, fun _ => ⟨p.U, 0, rfl, uo.lt, fun j x hx => ?_⟩⟩⟩
 ·rw [← h.hf, List.getElem?_map] at hx
  obtain ⟨q, hq, rfl⟩ := Option.map_eq_some_iff.1 hx
  obtain ⟨e0, e1, e2, e3⟩ := a8n hq
  rw [Nat.zero_add]
  have hq' := List.mem_of_getElem? hq
  exact ⟨(fo.cell e0).1, (fo.cell e1).1, (fo.cell e2).1, _, (fo.cell e3).1, ((h.rg q hq').same (hob _ (a2t hq'))).row⟩
 ·rw [← h.ht, List.getElem?_map] at hx
  obtain ⟨q, hq, rfl⟩ := Option.map_eq_some_iff.1 hx
  obtain ⟨e0, e1⟩ := a8o hq
  rw [Nat.zero_add]
  have ht := h.tr q (List.mem_of_getElem? hq)
  exact ⟨_, _, (to.cell e0).1, (to.cell e1).1, hrw ht.1, hrw ht.2⟩
 ·rw [Nat.zero_add]
  exact (uo.cell (by rw [List.getElem?_map, hx]; rfl)).1
structure GD (w1 : World) (F : Int → Vl → Vl → Vl × Int) (fs : List Fd) (fuel : Nat) (R : GS) (B : Nat) (L : List Nat) (k : Nat) (wr : World) : Prop where
 ex : ∃ (p : Mp) (t : GS), p.B = B ∧ (∀ k ∈ L, k ∈ p.ap) ∧ Dc w1 p t.1 wr ∧ Good fs t.1 ∧ goP (b0f F fs) a6z stS fuel k t = R ∧ fuel ≤ stS t + k
theorem d5e {tm : Array Value} {a b c d e f g h i : Value} (hp : tm[6]?.getD undef = .pointer (some ⟨B, 0, none⟩)) (hx : W.heap[B]? = some (.cells #[a, b, c, d, e, f, g, h, i] 32)) : (results Tryz.f13 tm).run Tryz.prog W = .ok (.agg #[a, b, c, d, e, f, g, h, i]) W := by
 obtain ⟨d0, d1, d2, d3, d4, d5, d6, d7, d8⟩ := nine hx
 simp [results, Tryz.results13, go_sem, hp, d0, d1, d2, d3, d4, d5, d6, d7, d8]
theorem Dc.apart1 (h : Dc w0 p s W) (hL : ∀ k ∈ L, n ≤ k ∧ k < w0.heap.size) (hr : ∀ q ∈ p.tw, Row n W q.a q.t.ks ∧ Row n W q.b q.t.vs) : Dc w0 { p with ap := L } s W := by
 have hw : ∀ {sv : Value} {xs : List Vl}, Row n W sv xs → Rw W (p.own ++ p.ap) sv xs → Rw W (p.own ++ L) sv xs := fun {sv xs} h1 h2 => by
  obtain ⟨a, cap, e, hl, hx⟩ := h2
  obtain ⟨a', cap', e', hl', hx'⟩ := h1
  refine ⟨a, cap, e, hl, fun hne => ?_⟩
  obtain ⟨b, off, ea, hb, hbl, hc'⟩ := hx hne
  obtain ⟨b', off', ea', hb', _⟩ := hx' hne
  rw [e] at e'
  cases e'
  rw [ea] at ea'
  cases ea'
  refine ⟨b, off, ea, fun hk => ?_, hbl, hc'⟩
  rcases List.mem_append.1 hk with hk | hk
  ·exact hb (List.mem_append_left _ hk)
  ·have := hL b hk
   omega
 exact ⟨h.box, h.fo, h.to, h.uo, h.rg, h.hf, h.ht, fun q hq => ⟨hw (hr q hq).1 (h.tr q hq).1, hw (hr q hq).2 (h.tr q hq).2⟩, fun k hk => ⟨Nat.lt_of_lt_of_le (hL k hk).2 h.bl.size, fun e => by have := h.lo _ e; have := hL k hk; omega⟩, h.nd, h.lo, h.bl⟩
theorem d3b (hfr : Fr3 a p2 B p7) (hS : ∀ u, Below w.heap.size w u → S7 u B ca nf cc mn fa n1 fc ta nt tc oa no oc st en er lk ln ls) (q8 : ∀ u, Below w.heap.size w u → Calls Tryz.prog 8 #[.agg #[.slice ca nf cc, .int .i64 mn]] u fun e w' => e = .returned (.tuple #[.agg #[.slice none 0 0, .slice none 0 0, .slice none 0 0, .int .i64 0, .int .i64 0, .int .i64 0, .int .i64 0, .int .i64 0, .string ⟨#[]⟩], .int .i64 2]) ∧ Below u.heap.size u w') (q9 : ∀ u, Below w.heap.size w u → Calls Tryz.prog 9 #[.agg #[.slice ca nf cc, .int .i64 mn]] u fun e w' => e = .returned (.bool false) ∧ Below u.heap.size u w') (q10 : ∀ u, Below w.heap.size w u → Calls Tryz.prog 10 #[.agg #[.slice none 0 0, .slice none 0 0, .slice none 0 0, .int .i64 0, .int .i64 0, .int .i64 0, .int .i64 0, .int .i64 0, .string ⟨#[]⟩], .agg #[.slice none 0 0, .slice none 0 0, .slice none 0 0, .int .i64 0, .int .i64 0, .int .i64 0, .int .i64 0, .int .i64 0, .string ⟨#[]⟩]] u fun e w' => e = .returned (.bool true) ∧ Below u.heap.size u w') (hK : ∀ a' w', Fr3 a' p2 B p7 → Below w.heap.size w w' → Code.wp Tryz.prog c K a' w') :
  Code.wp Tryz.prog (.seq ((Tryz.f3.body.bind (a5x 4)).getD .skip) (.seq ((Tryz.f3.body.bind (a6n 5)).getD .skip) c)) K a w := by
 obtain ⟨x, hx, hk⟩ := hfr.lit
 clear hk hfr
 subst hx
 conv => arg 2; arg 1; whnf
 conv => arg 2; arg 2; arg 1; whnf
 obtain ⟨_, _, _, _, _, _, _, _, _, _, _⟩ := hS _ (Below.refl _ _)
 replace hK : Hid _ := hK
 replace hS : Hid _ := hS
 replace q8 : Hid _ := q8
 replace q9 : Hid _ := q9
 replace q10 : Hid _ := q10
 go_wp2_with (go_at_call 8; refine Hid.out ?_)
 refine Lib.hid ?_
 refine (q8.out _ (Below.refl _ _)).mono ?_
 rintro e u1 ⟨rfl, hb1⟩
 obtain ⟨v1, hv1⟩ := exq (u1.alloc zst)
 have N1 : Below u1.heap.size u1 v1 := by rw [← hv1]; exact (Below.refl _ _).alloc (Nat.le_refl _) _
 have G1 : v1.heap[u1.heap.size]? = some zst := by rw [← hv1]; exact a3h _ _
 obtain ⟨m0, m1, m2, m3, m4, m5, m6, m7, m8⟩ := nine G1
 obtain ⟨z0, z1, z2, z3, z4, z5, z6, z7, z8⟩ := frz G1
 obtain ⟨Y, hY⟩ := exq (set9 v1 u1.heap.size (.slice none 0 0) (.slice none 0 0) (.slice none 0 0) (.int .i64 0) (.int .i64 0) (.int .i64 0) (.int .i64 0) (.int .i64 0) (.string ⟨#[]⟩))
 have P1 : Y.heap[u1.heap.size]? = some zst := by rw [← hY]; exact a1y G1
 have N2 : Below u1.heap.size u1 Y := by rw [← hY]; exact a1z N1 (Nat.le_refl _) _ _ _ _ _ _ _ _ _
 unfold set9 at hY
 obtain ⟨_, _, _, _, _, _, _, _, _, _, _⟩ := hS.out _ (ext3 hb1 N2)
 go_wp2_with (go_at_call 9; refine Hid.out ?_)
 refine Lib.hid ?_
 refine (q9.out _ (ext3 hb1 N2)).mono ?_
 rintro e u2 ⟨rfl, hb2⟩
 clear hY hv1 m0 m1 m2 m3 m4 m5 m6 m7 m8 z0 z1 z2 z3 z4 z5 z6 z7 z8
 obtain ⟨y0, y1, y2, y3, y4, y5, y6, y7, y8⟩ := nine (a0j hb2 P1)
 go_wp2_with (go_at_call 10; refine Hid.out ?_)
 refine Lib.hid ?_
 refine (q10.out _ (ext3 (ext3 hb1 N2) hb2)).mono ?_
 rintro e u3 ⟨rfl, hb3⟩
 go_wp2
 exact hK.out _ _ ⟨rfl, rfl, rfl, rfl, rfl, rfl⟩ (ext3 (ext3 (ext3 hb1 N2) hb2) hb3)
theorem d3c {S : St} (hfr : Fr3 a p2 B p7) (hS : ∀ u, Below w.heap.size w u → S7 u B ca nf cc mn fa n1 fc ta nt tc oa no oc st en er lk ln ls) (q8 : ∀ u, Below w.heap.size w u → Calls Tryz.prog 8 #[.agg #[.slice ca nf cc, .int .i64 mn]] u fun e w' => ∃ F1, e = .returned (.tuple #[stv (.slice (some ⟨F1, 0, none⟩) 1 1) (.slice none 0 0) (.slice none 0 0) S, .int .i64 0]) ∧ StIn w'.heap.size w' (.slice (some ⟨F1, 0, none⟩) 1 1) (.slice none 0 0) (.slice none 0 0) S ∧ Below u.heap.size u w') (q9 : ∀ u, Below w.heap.size w u → Calls Tryz.prog 9 #[.agg #[.slice ca nf cc, .int .i64 mn]] u fun e w' => e = .returned (.bool true) ∧ Below u.heap.size u w') (q11 : ∀ u, Below w.heap.size w u → Calls Tryz.prog 11 #[.agg #[.slice ca nf cc, .int .i64 mn]] u fun e w' => ∃ F1, e = .returned (stv (.slice (some ⟨F1, 0, none⟩) 1 1) (.slice none 0 0) (.slice none 0 0) S) ∧ StIn w'.heap.size w' (.slice (some ⟨F1, 0, none⟩) 1 1) (.slice none 0 0) (.slice none 0 0) S ∧ Below u.heap.size u w') (q10 : ∀ (F1 F2 : Nat) (u : World), StIn u.heap.size u (.slice (some ⟨F1, 0, none⟩) 1 1) (.slice none 0 0) (.slice none 0 0) S → StIn u.heap.size u (.slice (some ⟨F2, 0, none⟩) 1 1) (.slice none 0 0) (.slice none 0 0) S → Calls Tryz.prog 10 #[stv (.slice (some ⟨F1, 0, none⟩) 1 1) (.slice none 0 0) (.slice none 0 0) S, stv (.slice (some ⟨F2, 0, none⟩) 1 1) (.slice none 0 0) (.slice none 0 0) S] u fun e w' => e = .returned (.bool true) ∧ Below u.heap.size u w') (hK : ∀ a' w', Fr3 a' p2 B p7 → Below w.heap.size w w' → Code.wp Tryz.prog c K a' w') :
  Code.wp Tryz.prog (.seq ((Tryz.f3.body.bind (a5x 4)).getD .skip) (.seq ((Tryz.f3.body.bind (a6n 5)).getD .skip) c)) K a w := by
 obtain ⟨x, hx, hk⟩ := hfr.lit
 clear hk hfr
 subst hx
 conv => arg 2; arg 1; whnf
 conv => arg 2; arg 2; arg 1; whnf
 have lB : B < w.heap.size := a0w (hS _ (Below.refl _ _)).p0
 obtain ⟨_, _, _, _, _, _, _, _, _, _, _⟩ := hS _ (Below.refl _ _)
 replace hK : Hid _ := hK
 replace hS : Hid _ := hS
 replace q8 : Hid _ := q8
 replace q9 : Hid _ := q9
 replace q10 : Hid _ := q10
 replace q11 : Hid _ := q11
 go_wp2_with (go_at_call 8; refine Hid.out ?_)
 refine Lib.hid ?_
 refine (q8.out _ (Below.refl _ _)).mono ?_
 rintro e u1 ⟨F1, rfl, hI1, hb1⟩
 obtain ⟨v1, hv1⟩ := exq (u1.alloc (stb (.slice (some ⟨F1, 0, none⟩) 1 1) (.slice none 0 0) (.slice none 0 0) S))
 have N1 : Below u1.heap.size u1 v1 := by rw [← hv1]; exact (Below.refl _ _).alloc (Nat.le_refl _) _
 have G1 : v1.heap[u1.heap.size]? = some (stb (.slice (some ⟨F1, 0, none⟩) 1 1) (.slice none 0 0) (.slice none 0 0) S) := by rw [← hv1]; exact a3h _ _
 have M1 := ext3 hb1 N1
 have I1 := hI1.at N1
 replace I1 : Hid _ := I1
 clear hI1
 obtain ⟨_, _, _, _, _, _, _, _, _, _, _⟩ := hS.out _ M1
 go_wp2_with (go_at_call 9; refine Hid.out ?_)
 refine Lib.hid ?_
 refine (q9.out _ M1).mono ?_
 rintro e u2 ⟨rfl, hb2⟩
 clear hv1
 have M2 := ext3 M1 hb2
 have hC : ∀ u, Below u2.heap.size u2 u → (u.cell? ⟨B, 0, none⟩ = some (.slice ca nf cc) ∧ u.cell? ⟨B, 1, none⟩ = some (.int .i64 mn)) ∧ u.heap[u1.heap.size]? = some (stb (.slice (some ⟨F1, 0, none⟩) 1 1) (.slice none 0 0) (.slice none 0 0) S) ∧ StIn u.heap.size u (.slice (some ⟨F1, 0, none⟩) 1 1) (.slice none 0 0) (.slice none 0 0) S := fun u hu => by
  obtain ⟨p0, p1, _⟩ := hS.out _ (ext3 M2 hu)
  exact ⟨⟨p0, p1⟩, a0j (ext3 hb2 hu) G1, (I1.out.at hb2).at hu⟩
 obtain ⟨⟨p0, p1⟩, h9, _⟩ := hC _ (Below.refl _ _)
 obtain ⟨n0, n1', n2, n3, n4, n5, n6, n7, n8⟩ := nine h9
 clear h9
 have c11 : ∀ u, Below u2.heap.size u2 u → _ := fun u hu => q11.out u (ext3 M2 hu)
 replace hC : Hid _ := hC
 replace c11 : Hid _ := c11
 go_wp2
 go_region_held3 (fun u => u.cell? ⟨B, 0, none⟩ = some (.slice ca nf cc) ∧ u.cell? ⟨B, 1, none⟩ = some (.int .i64 mn) ∧ u.cell? ⟨u1.heap.size, 0, none⟩ = some (.slice (some ⟨F1, 0, none⟩) 1 1) ∧ u.cell? ⟨u1.heap.size, 1, none⟩ = some (.slice none 0 0) ∧ u.cell? ⟨u1.heap.size, 2, none⟩ = some (.slice none 0 0) ∧ u.cell? ⟨u1.heap.size, 3, none⟩ = some (.int .i64 S.st) ∧ u.cell? ⟨u1.heap.size, 4, none⟩ = some (.int .i64 S.en) ∧ u.cell? ⟨u1.heap.size, 5, none⟩ = some (.int .i64 S.er) ∧ u.cell? ⟨u1.heap.size, 6, none⟩ = some (.int .i64 S.la.k) ∧ u.cell? ⟨u1.heap.size, 7, none⟩ = some (.int .i64 S.la.n) ∧ u.cell? ⟨u1.heap.size, 8, none⟩ = some (.string S.la.s)) (first | go_keep | skip) (first | (go_at_call 11; refine (c11.out _ (by repeat (first | with_reducible exact Below.refl _ _ | with_reducible refine a0i ?_ | with_reducible refine a0c ?_ _))).mono ?_; rintro e w7 ⟨F7, rfl, hI7, hb7⟩; have N7 : Below u2.heap.size u2 w7 := ext3 (by repeat (first | with_reducible exact Below.refl _ _ | with_reducible refine a0i ?_ | with_reducible refine a0c ?_ _)) hb7; obtain ⟨⟨s0, s1⟩, h9, hI⟩ := hC.out w7 N7; obtain ⟨t0, t1, t2, t3, t4, t5, t6, t7, t8⟩ := nine h9; clear h9; replace hI : Hid _ := hI; replace hI7 : Hid _ := hI7) | (go_at_call 10; refine (q10.out F1 F7 _ hI.out hI7.out).mono ?_; rintro e w8 ⟨rfl, hb8⟩; have N8 : Below u2.heap.size u2 w8 := ext3 N7 hb8; obtain ⟨⟨s0, s1⟩, h9, _⟩ := hC.out w8 N8; obtain ⟨t0, t1, t2, t3, t4, t5, t6, t7, t8⟩ := nine h9; clear h9))
 go_wp2
 exact hK.out _ _ ⟨rfl, rfl, rfl, rfl, rfl, rfl⟩ (ext3 M2 N8)
structure Fr0 (a : Act) (p0 p1 p2 : Value) : Prop where
 sz : a.tmps.size = 92
 df : a.defers = []
 g0 : a.tmps.getD 0 undef = p0
 g1 : a.tmps.getD 1 undef = p1
 g2 : a.tmps.getD 2 undef = p2
theorem Fr0.lit {p0 p1 p2 : Value} (h : Fr0 a p0 p1 p2) : ∃ x : Nat → Value, a = { tmps := #[p0, p1, p2, x 3, x 4, x 5, x 6, x 7, x 8, x 9, x 10, x 11, x 12, x 13, x 14, x 15, x 16, x 17, x 18, x 19, x 20, x 21, x 22, x 23, x 24, x 25, x 26, x 27, x 28, x 29, x 30, x 31, x 32, x 33, x 34, x 35, x 36, x 37, x 38, x 39, x 40, x 41, x 42, x 43, x 44, x 45, x 46, x 47, x 48, x 49, x 50, x 51, x 52, x 53, x 54, x 55, x 56, x 57, x 58, x 59, x 60, x 61, x 62, x 63, x 64, x 65, x 66, x 67, x 68, x 69, x 70, x 71, x 72, x 73, x 74, x 75, x 76, x 77, x 78, x 79, x 80, x 81, x 82, x 83, x 84, x 85, x 86, x 87, x 88, x 89, x 90, x 91], defers := [] } := by
 refine ⟨fun k => a.tmps.getD k undef, ?_⟩
 have e := b1c a.tmps 92 h.sz
 have e2 : ((List.range 92).map fun k => a.tmps.getD k undef).toArray = (let x := (fun k => a.tmps.getD k undef); #[x 0, x 1, x 2, x 3, x 4, x 5, x 6, x 7, x 8, x 9, x 10, x 11, x 12, x 13, x 14, x 15, x 16, x 17, x 18, x 19, x 20, x 21, x 22, x 23, x 24, x 25, x 26, x 27, x 28, x 29, x 30, x 31, x 32, x 33, x 34, x 35, x 36, x 37, x 38, x 39, x 40, x 41, x 42, x 43, x 44, x 45, x 46, x 47, x 48, x 49, x 50, x 51, x 52, x 53, x 54, x 55, x 56, x 57, x 58, x 59, x 60, x 61, x 62, x 63, x 64, x 65, x 66, x 67, x 68, x 69, x 70, x 71, x 72, x 73, x 74, x 75, x 76, x 77, x 78, x 79, x 80, x 81, x 82, x 83, x 84, x 85, x 86, x 87, x 88, x 89, x 90, x 91] : Array Value) := rfl
 rw [e2] at e
 simp only [h.g0, h.g1, h.g2] at e
 obtain ⟨t, d⟩ := a
 obtain rfl : d = [] := h.df
 simp only at e
 exact congrArg (fun t => ({ tmps := t, defers := [] } : Act)) e
theorem d3d {w1 : World} (hfr : Fr0 a (.agg #[.slice ca nf cc, .int .i64 mn]) (.agg #[.slice fa n1 fc, .slice ta nt tc, .slice oa no oc, .int .i64 st, .int .i64 en, .int .i64 er, .int .i64 lk, .int .i64 ln, .string ls]) (.int .i64 p2)) (hw1 : (w.alloc (.cells #[.slice ca nf cc, .int .i64 mn] 24)).alloc (.cells #[.slice fa n1 fc, .slice ta nt tc, .slice oa no oc, .int .i64 st, .int .i64 en, .int .i64 er, .int .i64 lk, .int .i64 ln, .string ls] 32) = w1) (hS : ∀ u, Below w1.heap.size w1 u → S7 u w.heap.size ca nf cc mn fa n1 fc ta nt tc oa no oc st en er lk ln ls) (q6 : ∀ u, Below w1.heap.size w1 u → Calls Tryz.prog 6 #[.agg #[.slice ca nf cc, .int .i64 mn], .agg #[.slice fa n1 fc, .slice ta nt tc, .slice oa no oc, .int .i64 st, .int .i64 en, .int .i64 er, .int .i64 lk, .int .i64 ln, .string ls]] u fun e w' => e = .returned (.bool p7) ∧ Below u.heap.size u w') (q7 : ∀ u, Below w1.heap.size w1 u → Calls Tryz.prog 7 #[.agg #[.slice ca nf cc, .int .i64 mn], .agg #[.slice fa n1 fc, .slice ta nt tc, .slice oa no oc, .int .i64 st, .int .i64 en, .int .i64 er, .int .i64 lk, .int .i64 ln, .string ls]] u fun e w' => e = .returned (.bool p7) ∧ Below u.heap.size u w') (hK : ∀ a' w', Fr3 a' p2 w.heap.size p7 → Below w1.heap.size w1 w' → Code.wp Tryz.prog c K a' w') :
  Code.wp Tryz.prog (.seq ((Tryz.f3.body.bind (a5x 0)).getD .skip) (.seq ((Tryz.f3.body.bind (a5x 1)).getD .skip) (.seq ((Tryz.f3.body.bind (a6n 2)).getD .skip) c))) K a w := by
 obtain ⟨x, hx⟩ := hfr.lit
 clear hfr
 subst hx
 conv => arg 2; arg 1; whnf
 conv => arg 2; arg 2; arg 1; whnf
 conv => arg 2; arg 2; arg 2; arg 1; whnf
 obtain ⟨_, _, _, _, _, _, _, _, _, _, _⟩ := hS _ (Below.refl _ _)
 replace hK : Hid _ := hK
 replace hS : Hid _ := hS
 replace q6 : Hid _ := q6
 replace q7 : Hid _ := q7
 cases p7
 all_goals
  go_wp2_with (go_at_call 6; refine Hid.out ?_)
  refine Lib.hid ?_
  refine (q6.out _ (Below.refl _ _)).mono ?_
  rintro e u1 ⟨rfl, hb1⟩
  clear hw1
  obtain ⟨_, _, _, _, _, _, _, _, _, _, _⟩ := hS.out _ hb1
  go_wp2_with (go_at_call 7; refine Hid.out ?_)
  refine Lib.hid ?_
  refine (q7.out _ hb1).mono ?_
  rintro e u2 ⟨rfl, hb2⟩
  go_wp2
  exact hK.out _ _ ⟨rfl, rfl, rfl, rfl, rfl, rfl⟩ (ext3 hb1 hb2)
theorem d3e {t : St} (h1 : t.en = en) (h2 : t.st = st) : Ending.returned (.agg #[fv, tv, ov, .int .i64 st, .int .i64 en, .int .i64 t.er, .int .i64 t.la.k, .int .i64 t.la.n, .string t.la.s]) = .returned (stv fv tv ov t) := by
 subst h1 h2
 rfl
theorem d0u {F : Int → Vl → Vl → Vl × Int} (hOp : OpF F) {fuel : Nat} (hfu : fuel ≤ 60000) {s : GS} (W : World) (hT : PTab W) (hF : RowF W.heap.size W ca fs) (hS : StIn W.heap.size W fv tv ov s.1) (hp : a2i fs mn = true) (hg : Good fs s.1) (n0 : Nat) (hn0 : n0 ≤ W.heap.size) (hT0 : b0a n0 W tv s.1.tb) (A : List Nat) (hA : ∀ k ∈ A, n0 ≤ k ∧ k < W.heap.size) (t : St) (htt : t = (goT F fs fuel s).1) :
  Calls Tryz.prog 13 #[PV ca fs.length cc mn, stv fv tv ov s.1, .int .i64 fuel] W fun r w' => ∃ fv' tv' ov', r = .returned (stv fv' tv' ov' t) ∧ (∀ V : World, w'.heap.size ≤ V.heap.size → (∀ b, b ∉ A → b < w'.heap.size → V.heap[b]? = w'.heap[b]?) → StIn V.heap.size V fv' tv' ov' t) ∧ Below W.heap.size W w' := by
 obtain ⟨w1, hw1⟩ := exq (((W.alloc (.cells #[.slice ca fs.length cc, .int .i64 mn] 24)).alloc (stb fv tv ov s.1)).alloc zst)
 have E1 : Below W.heap.size W w1 := by rw [← hw1]; exact a0c (a0c (a0c (Below.refl _ _) _) _) _
 have g0 : w1.heap[W.heap.size]? = some (.cells #[.slice ca fs.length cc, .int .i64 mn] 24) := by
  rw [← hw1]; exact a0j (a0c (a0c (Below.refl _ _) _) _) (a0h _ _)
 have g1 : w1.heap[W.heap.size + 1]? = some (stb fv tv ov s.1) := by
  rw [← hw1]; exact a0j (a0c (Below.refl _ _) _) (a6w W _ _)
 have g2 : w1.heap[W.heap.size + 1 + 1]? = some zst := by rw [← hw1]; simpa using a0h ((W.alloc _).alloc _) _
 have hrs : ∀ x ∈ s.1.fr, 1 ≤ x.rs.length ∧ x.rs.length ≤ 1000 := fun x hx => by
  obtain ⟨f, f1, _, _, _, f5, _⟩ := hg.fg x hx
  have hk := a5r hp f1
  have := hk.r1
  have := hk.r2
  omega
 have hout : s.1.out.length ≤ 60000 := by have := hg.o1; have := hg.s2; omega
 have q1 : ∀ u, Below W.heap.size W u → Calls Tryz.prog 33 #[stv fv tv ov s.1] u _ := fun u hu => c6r fv tv ov s.1 u (hS.at hu) n0 (Nat.le_trans hn0 hu.size) (hT0.below (hu.mono hn0)) hg.n1 hg.n2 hrs hg.t2 hout
 have q3 : ∀ (p : Mp) (t : GS) (W' : World), Dc w1 p t.1 W' → Good fs t.1 → t.1.st < 60000 → Calls Tryz.prog 34 #[PV ca fs.length cc mn, .pointer (some ⟨p.B, 0, none⟩)] W' (EndQ w1 p.B p.ap (a6s F fs t.1)) := fun p t W' hM hG h60 => c2e hOp hp ⟨ca, cc, rfl, hF.at E1⟩ (hT.on E1) hM hG h60
 have hgt : Good fs t := by rw [htt]; exact b1y hOp hp hfu _ s hg
 obtain ⟨fa, fc, rfl, _, _⟩ := hS.f
 obtain ⟨ta, tc, rfl, _, _⟩ := hS.t
 obtain ⟨oa, oc, rfl, _, _⟩ := hS.o
 have hsg : ∀ t : GS, Good fs t.1 → t.1.en = 0 → t.1.st < 60000 → Good fs (b0f F fs t).1 := fun t h1 h2 h3 => a9v hOp hp h1 h2 h3
 obtain ⟨nf, hnf⟩ := exq (fs.length)
 obtain ⟨n1, hn1⟩ := exq (s.1.fr.length)
 obtain ⟨n2, hn2⟩ := exq (s.1.tb.length)
 obtain ⟨n3, hn3⟩ := exq (s.1.out.length)
 rw [hnf] at q3 g0 hw1 ⊢
 rw [hn1, hn2, hn3] at q1 g1 hw1 ⊢
 clear hF hS hnf hrs hout
 replace hn1 : Hid _ := hn1
 replace hn2 : Hid _ := hn2
 replace hn3 : Hid _ := hn3
 replace q1 : Hid _ := q1
 replace q3 : Hid _ := q3
 replace hsg : Hid _ := hsg
 have a0 := a0a (i := 0) g0 rfl
 have a1 := a0a (i := 1) g0 rfl
 obtain ⟨b0, b1, b2, b3, b4, b5, b6, b7, b8⟩ := nine g1
 go_enter Tryz.func13, Tryz.ntmps13
 go_wp2_with (go_at_call 33; refine (q1.out w1 E1).mono ?_; rintro e w2 ⟨F', fc', T', tc', U', uc', fw, tw, rfl, hFD, hb2⟩; refine Hid.out ?_)
 refine Lib.hid ?_
 clear a0 a1 b0 b1 b2 b3 b4 b5 b6 b7 b8
 have gz : (w2.alloc zst).heap[w2.heap.size]? = some zst := a0h _ _
 obtain ⟨wz, hwz⟩ := exq (w2.alloc zst)
 have Ez : Below w2.heap.size w2 wz := by rw [← hwz]; exact a0c (Below.refl _ _) _
 rw [hwz] at gz
 obtain ⟨w3, hw3⟩ := exq (set9 wz w2.heap.size (.slice (some ⟨F', 0, none⟩) n1 fc') (.slice (some ⟨T', 0, none⟩) n2 tc') (.slice (some ⟨U', 0, none⟩) n3 uc') (.int .i64 s.1.st) (.int .i64 s.1.en) (.int .i64 s.1.er) (.int .i64 s.1.la.k) (.int .i64 s.1.la.n) (.string s.1.la.s))
 have g3 : w3.heap[w2.heap.size]? = some (stb (.slice (some ⟨F', 0, none⟩) n1 fc') (.slice (some ⟨T', 0, none⟩) n2 tc') (.slice (some ⟨U', 0, none⟩) n3 uc') s.1) := by rw [← hw3]; exact a1y gz
 have E3 : Below w2.heap.size w2 w3 := by rw [← hw3]; exact a1z Ez (Nat.le_refl _) _ _ _ _ _ _ _ _ _
 have lc : W.heap.size + 1 + 1 < w1.heap.size := a0n g2
 have lw2 : W.heap.size ≤ w2.heap.size := by have := hb2.size; omega
 have hLL : ∀ k ∈ (W.heap.size + 1 + 1) :: A, n0 ≤ k ∧ k < w1.heap.size := fun k hk => by
  rcases List.mem_cons.1 hk with rfl | hk
  ·omega
  ·have := hA k hk; omega
 have hD3 : ∃ p : Mp, p.B = w2.heap.size ∧ (∀ k ∈ (W.heap.size + 1 + 1) :: A, k ∈ p.ap) ∧ Dc w1 p s.1 w3 := by
  have h0 := hFD.dc (W0 := w1) (X := w3) (Nat.le_refl _) hb2 E3 (by rw [hn1.out, hn2.out, hn3.out]; exact g3)
  exact ⟨_, rfl, fun _ hk => hk, h0.apart1 (L := (W.heap.size + 1 + 1) :: A) (n := n0) hLL (fun q hq => ⟨(hFD.rw q hq).1.below (E3.mono (by omega)), (hFD.rw q hq).2.below (E3.mono (by omega))⟩)⟩
 obtain ⟨p, hpB, hpa, hM⟩ := hD3
 have hR : goP (b0f F fs) a6z stS fuel fuel s = goT F fs fuel s := rfl
 obtain ⟨R, hRR⟩ := exq (goT F fs fuel s)
 rw [hRR] at hR htt
 have hI : GD w1 F fs fuel R w2.heap.size ((W.heap.size + 1 + 1) :: A) fuel w3 := ⟨p, s, hpB, hpa, hM, hg, hR, by omega⟩
 obtain ⟨z0, z1, z2, z3, z4, z5, z6, z7, z8⟩ := nine gz
 obtain ⟨y0, y1, y2, y3, y4, y5, y6, y7, y8⟩ := frz gz
 unfold set9 at hw3
 clear hM hR hRR hg hw1 hFD
 replace hI : Hid _ := hI
 go_wp2
 clear z0 z1 z2 z3 z4 z5 z6 z7 z8 y0 y1 y2 y3 y4 y5 y6 y7 y8 hw3 hwz
 obtain ⟨B, hB⟩ := exq (w2.heap.size)
 rw [hB] at hI ⊢
 go_loopg [10] fuel (fun k _ wr => GD w1 F fs fuel R B ((W.heap.size + 1 + 1) :: A) k wr)
 case atStart => exact hI.out
 case round =>
  clear hI
  obtain ⟨p, x, rfl, hpa, hM, hg, hR, hk⟩ := hrel.ex
  clear hrel
  obtain ⟨j0, j1, j2, c3, c4, j5⟩ := hM.cells
  clear j0 j1 j2 j5
  obtain ⟨st, hst⟩ := exq (x.1.st)
  obtain ⟨en, hen⟩ := exq (x.1.en)
  rw [hst] at c3
  rw [hen] at c4
  have gw0 := a0j hM.bl g0
  have a0 := a0a (i := 0) gw0 rfl
  have a1 := a0a (i := 1) gw0 rfl
  by_cases hgo : en = 0 ∧ st < fuel
  ·obtain ⟨h1, h2⟩ := hgo
   have h6 : (en == 0) = true := by simpa using h1
   have hs2 := x.2
   rw [hst] at hs2
   have hk0 : 0 < gk := by
    have : stS x = st.toNat := by rw [← hst]; rfl
    omega
   obtain ⟨k', rfl⟩ : ∃ k', gk = k' + 1 := ⟨gk - 1, by omega⟩
   have hl : a6z x = true ∧ stS x < fuel := ⟨by simp [a6z, hen, h1], by show x.1.st.toNat < fuel; omega⟩
   have hnx : ∀ W' p', p'.B = p.B → (∀ k ∈ p.ap, k ∈ p'.ap) → Dc w1 p' (a6s F fs x.1) W' → GD w1 F fs fuel R p.B ((W.heap.size + 1 + 1) :: A) k' W' := fun W' p' e e' hM' => ⟨p', b0f F fs x, e, fun k hk => e' k (hpa k hk), hM', hsg.out x hg (by rw [hen]; exact h1) (by omega), by rw [goP, if_pos hl] at hR; exact hR, by rw [b6i]; omega⟩
   have hstep := q3.out p x wr hM hg (by omega)
   replace hnx : Hid _ := hnx
   clear hM hg hR hk hl hst hen h1 hk0 hs2
   go_wp2_with (go_at_call 34; refine hstep.mono ?_; rintro e w4 ⟨rfl, p', e1, e2, hM4⟩)
   go_roundg k'
   case measure => omega
   case rel => exact hnx.out _ p' e1 e2 hM4
  ·have hs2 := x.2
   have hl : ¬ (a6z x = true ∧ stS x < fuel) := fun hl => hgo ⟨by rw [← hen]; simpa [a6z] using hl.1, by have := hl.2; unfold stS at this; omega⟩
   rw [b4z hl] at hR
   rw [← hR] at htt
   rw [← htt] at hM hg
   have gc : wr.heap[W.heap.size + 1 + 1]? = some zst := a0j hM.bl g2
   have gb := hM.box
   clear c3 c4
   obtain ⟨m0, m1, m2, m3, m4, m5, m6, m7, m8⟩ := nine gb
   obtain ⟨x0, x1, x2, x3, x4, x5, x6, x7, x8⟩ := nine gc
   obtain ⟨z00, z01, z02, z03, z04, z05, z06, z07, z08⟩ := frz gc
   have em : t.en = en := by rw [htt]; exact hen
   have es : t.st = st := by rw [htt]; exact hst
   obtain ⟨t1, ht1⟩ := exq (t.fr.length)
   obtain ⟨t2, ht2⟩ := exq (t.tb.length)
   obtain ⟨t3, ht3⟩ := exq (t.out.length)
   obtain ⟨er, her⟩ := exq (t.er)
   obtain ⟨lk, hlk⟩ := exq (t.la.k)
   obtain ⟨ln, hln⟩ := exq (t.la.n)
   obtain ⟨ls, hls⟩ := exq (t.la.s)
   rw [ht1] at m0
   rw [ht2] at m1
   rw [ht3] at m2
   rw [her] at m5
   rw [hlk] at m6
   rw [hln] at m7
   rw [hls] at m8
   have hV : Ending.returned (.agg #[.slice (some ⟨p.F, 0, none⟩) t1 p.fc, .slice (some ⟨p.T, 0, none⟩) t2 p.tc, .slice (some ⟨p.U, 0, none⟩) t3 p.uc, .int .i64 st, .int .i64 en, .int .i64 er, .int .i64 lk, .int .i64 ln, .string ls]) = .returned (stv (.slice (some ⟨p.F, 0, none⟩) t.fr.length p.fc) (.slice (some ⟨p.T, 0, none⟩) t.tb.length p.tc) (.slice (some ⟨p.U, 0, none⟩) t.out.length p.uc) t) := by
    rw [← ht1, ← ht2, ← ht3, ← her, ← hlk, ← hln, ← hls]
    exact d3e em es
   obtain ⟨Y, hY⟩ := exq (set9 wr (W.heap.size + 1 + 1) (.slice (some ⟨p.F, 0, none⟩) t1 p.fc) (.slice (some ⟨p.T, 0, none⟩) t2 p.tc) (.slice (some ⟨p.U, 0, none⟩) t3 p.uc) (.int .i64 st) (.int .i64 en) (.int .i64 er) (.int .i64 lk) (.int .i64 ln) (.string ls))
   have P1 : Y.heap[W.heap.size + 1 + 1]? = some (.cells #[.slice (some ⟨p.F, 0, none⟩) t1 p.fc, .slice (some ⟨p.T, 0, none⟩) t2 p.tc, .slice (some ⟨p.U, 0, none⟩) t3 p.uc, .int .i64 st, .int .i64 en, .int .i64 er, .int .i64 lk, .int .i64 ln, .string ls] 32) := by rw [← hY]; exact a1y gc
   have E5 : Below W.heap.size W Y := by rw [← hY]; exact a1z (a0b E1 hM.bl) (by omega) _ _ _ _ _ _ _ _ _
   have hSt : ∀ V : World, Y.heap.size ≤ V.heap.size → (∀ b, b ∉ A → b < Y.heap.size → V.heap[b]? = Y.heap[b]?) → StIn V.heap.size V (.slice (some ⟨p.F, 0, none⟩) t.fr.length p.fc) (.slice (some ⟨p.T, 0, none⟩) t.tb.length p.tc) (.slice (some ⟨p.U, 0, none⟩) t.out.length p.uc) t := fun V hV hk => by
    have hYs : Y.heap.size = wr.heap.size := by rw [← hY]; simp [set9]
    refine hM.scratch (L := (W.heap.size + 1 + 1) :: A) (fun k hk => (hLL k hk).2) hpa (by omega) (fun b hb hbl => ?_)
    simp only [List.mem_cons, not_or] at hb
    refine (hk b hb.2 (by omega)).trans ?_
    rw [← hY]
    exact b6j hb.1 _ _ _ _ _ _ _ _ _
   rw [em] at m4
   rw [es] at m3
   replace hSt : Hid _ := hSt
   replace em : Hid _ := em
   replace es : Hid _ := es
   unfold set9 at hY
   replace hV : Hid _ := hV
   clear hM hg hR hk hl hst hen hs2 htt hgt ht1 ht2 ht3 her hlk hln hls gb
   have hd : (en == 0) = false ∨ ((en == 0) = true ∧ decide (st < fuel) = false) := by
    by_cases h : en = 0
    ·right
     exact ⟨by simpa using h, by simp; by_cases h2 : st < fuel; exact absurd ⟨h, h2⟩ hgo; omega⟩
    ·left
     simpa using h
   clear hgo
   rcases hd with h6 | ⟨h6, h5⟩
   all_goals
    go_wp2
    exact bodyPost_ret (d5e (B := W.heap.size + 1 + 1) rfl P1) rfl ⟨_, _, _, hV.out, hSt.out, E5⟩
theorem b6k {r g : Nat} (hO : OwnR W g 30 3 r r (flat (List.replicate r nilV))) (hF : W.heap[F]? = some (.cells #[.int .i64 (n : Nat), .int .i64 0, .int .i64 0, .slice (some ⟨g, 0, none⟩) r r] 50)) : StIn W.heap.size W (.slice (some ⟨F, 0, none⟩) 1 1) (.slice none 0 0) (.slice none 0 0) (begS n r) := by
 refine ⟨⟨_, _, rfl, by simp [begS, maxLen], fun _ => ⟨F, 0, rfl, a0n hF, fun j x hx => ?_⟩⟩, ⟨_, _, rfl, by simp [begS], fun h => absurd rfl h⟩, ⟨_, _, rfl, by simp [begS], fun h => absurd rfl h⟩⟩
 match j, hx with
 | 0, hx =>
  cases hx
  refine ⟨a0a hF rfl, a0a hF rfl, a0a hF rfl, _, a0a hF rfl, ?_⟩
  have hO' : OwnR W g 30 3 (List.replicate r nilV).length r (flat (List.replicate r nilV)) := by rw [List.length_replicate]; exact hO
  have := hO'.row
  rw [List.length_replicate] at this
  exact this
 | j + 1, hx => simp [begS] at hx
theorem d0v (hp : a2i fs mn = true) : ∃ (n : Nat) (f : Fd), mn = n ∧ fs[n]? = some f := by
 simp only [a2i, Bool.and_eq_true, belB, decide_eq_true_eq] at hp
 have h1 := hp.1.1.2
 refine ⟨mn.toNat, fs[mn.toNat]'(by omega), by omega, List.getElem?_eq_getElem _⟩
theorem c6v (h : Good fs s) : ∀ t ∈ s.tb, t.ks.length ≤ 1000 ∧ t.vs.length ≤ 1000 := fun t ht => by
 obtain ⟨h1, h2⟩ := a2z (h.tg t ht).m
 omega
theorem ret3 {w' : World} {a' : Act} (h1 : a'.defers = []) (h2 : a'.tmps.getD 6 undef = .bool true) (hb : Below W.heap.size W w') : bodyPost Tryz.prog Tryz.f3 (fun r w' => r = .returned (.bool true) ∧ Below W.heap.size W w') .ret a' w' :=
 bodyPost_ret (v := .bool true) (by rw [← h2]; simp [results, Tryz.results3, go_sem]) h1 ⟨rfl, hb⟩
def zS : St := ⟨[], [], [], 0, 0, 0, nilV⟩
theorem d3f (W : World) : StIn W.heap.size W (.slice none 0 0) (.slice none 0 0) (.slice none 0 0) zS := ⟨⟨none, 0, rfl, by simp [zS], fun h => absurd rfl h⟩, ⟨none, 0, rfl, by simp [zS], fun h => absurd rfl h⟩, ⟨none, 0, rfl, by simp [zS], fun h => absurd rfl h⟩⟩
theorem c6w (fuel : Int) (W : World) (hT : PTab W) (hF : RowF W.heap.size W ca fs) (hS : StIn W.heap.size W fv tv ov s) :
  Calls Tryz.prog 3 #[PV ca fs.length cc mn, stv fv tv ov s, .int .i64 fuel] W fun r w' => r = .returned (.bool true) ∧ Below W.heap.size W w' := by
 obtain ⟨F, hOp⟩ := d1w
 obtain ⟨fa, fc, rfl, _, _⟩ := id hS.f
 obtain ⟨ta, tc, rfl, _, _⟩ := id hS.t
 obtain ⟨oa, oc, rfl, _, _⟩ := id hS.o
 obtain ⟨w1, hw1⟩ := exq ((W.alloc (.cells #[.slice ca fs.length cc, .int .i64 mn] 24)).alloc (stb (.slice fa s.fr.length fc) (.slice ta s.tb.length tc) (.slice oa s.out.length oc) s))
 have E1 : Below W.heap.size W w1 := by rw [← hw1]; exact a0c (a0c (Below.refl _ _) _) _
 have g0 : w1.heap[W.heap.size]? = some (.cells #[.slice ca fs.length cc, .int .i64 mn] 24) := by rw [← hw1]; exact a0g _ (a0h _ _)
 have g1 : w1.heap[W.heap.size + 1]? = some (stb (.slice fa s.fr.length fc) (.slice ta s.tb.length tc) (.slice oa s.out.length oc) s) := by rw [← hw1]; exact a6w W _ _
 have hE : ∀ u, Below w1.heap.size w1 u → S7 u W.heap.size ca fs.length cc mn fa s.fr.length fc ta s.tb.length tc oa s.out.length oc s.st s.en s.er s.la.k s.la.n s.la.s := fun u hu => by
  obtain ⟨h0, h1, h2, h3, h4, h5, h6, h7, h8⟩ := nine (a0j hu g1)
  exact ⟨a0a (a0j hu g0) rfl, a0a (a0j hu g0) rfl, h0, h1, h2, h3, h4, h5, h6, h7, h8⟩
 have aF := fun u (hu : Below w1.heap.size w1 u) => (hF.at E1).at hu
 have aS := fun u (hu : Below w1.heap.size w1 u) => (hS.at E1).at hu
 have q10 : ∀ u : World, Calls Tryz.prog 10 #[stv (.slice none 0 0) (.slice none 0 0) (.slice none 0 0) zS, stv (.slice none 0 0) (.slice none 0 0) (.slice none 0 0) zS] u fun e w' => e = .returned (.bool true) ∧ Below u.heap.size u w' := fun u => a6y _ _ _ _ _ _ zS u (d3f u) (d3f u) (by simp [zS])
 refine calls_of_wp Tryz.func3 (c := .seq ((Tryz.f3.body.bind (a5x 0)).getD .skip) (.seq ((Tryz.f3.body.bind (a5x 1)).getD .skip) (.seq ((Tryz.f3.body.bind (a6n 2)).getD .skip) (.seq ((Tryz.f3.body.bind (a5x 4)).getD .skip) (.seq ((Tryz.f3.body.bind (a6n 5)).getD .skip) ((Tryz.f3.body.bind (seqIn2 10)).getD .skip)))))) (by kernel_rfl) ?_
 have hret : ∀ {w : World}, Below w1.heap.size w1 w → ∀ a' w', a'.defers = [] → a'.tmps.getD 6 undef = .bool true → Below w.heap.size w w' → bodyPost Tryz.prog Tryz.f3 (fun r w' => r = .returned (.bool true) ∧ Below W.heap.size W w') .ret a' w' := fun hw a' w' h1 h2 hb => ret3 h1 h2 (ext3 (ext3 E1 hw) hb)
 refine d3d (p2 := fuel) (p7 := stB1 fs mn s) (w1 := w1) ?_ hw1 hE (fun u hu => a9e u (aF u hu) (aS u hu)) (fun u hu => d0h u (aF u hu) (aS u hu)) fun a2 w2 hf2 hb2 => ?_
 ·exact ⟨by kernel_rfl, rfl, by kernel_rfl, by kernel_rfl, by kernel_rfl⟩
 have hE2 := fun u (hu : Below w2.heap.size w2 u) => hE u (ext3 hb2 hu)
 have main : ∀ a3 w3, Fr3 a3 fuel W.heap.size (stB1 fs mn s) → Below w2.heap.size w2 w3 → Code.wp Tryz.prog ((Tryz.f3.body.bind (seqIn2 10)).getD .skip) (bodyPost Tryz.prog Tryz.f3 (fun r w' => r = .returned (.bool true) ∧ Below W.heap.size W w')) a3 w3 := fun a3 w3 hf3 hb3 => by
  have hb3 := ext3 hb2 hb3
  have hE3 := fun u (hu : Below w3.heap.size w3 u) => hE u (ext3 hb3 hu)
  by_cases hi : 4000 < fuel ∧ fuel ≤ 60000
  ·exact d0s (nf := 0) (cc := 0) (n1 := 0) (fc := 0) (nt := 0) (tc := 0) (no := 0) (oc := 0) (ca := none) (fa := none) (ta := none) (oa := none) (mn := 0) (st := 0) (en := 0) (er := 0) (lk := 0) (ln := 0) (ls := ⟨#[]⟩) hf3 (by simpa using hi.1) (by simpa using hi.2) (hret hb3)
  cases hm : stB1 fs mn s
  ·rw [hm] at hf3
   refine d2y hf3 ?_ hE3 (fun u hu => d0t u (aF u (ext3 hb3 hu)) (aS u (ext3 hb3 hu)) hm) (fun u _ => q10 u) (hret hb3)
   by_cases h1 : 4000 < fuel
   ·exact .inr ⟨by simpa using h1, by simp; omega⟩
   ·exact .inl (by simpa using h1)
  ·rw [hm] at hf3
   obtain ⟨hp, hg⟩ := b6f.1 hm
   by_cases hr : 0 ≤ fuel ∧ fuel ≤ 4000
   ·obtain ⟨k, rfl⟩ : ∃ k : Nat, fuel = k := ⟨fuel.toNat, by omega⟩
    have hst : 0 ≤ s.st := by
     unfold stB1 b3h frB at hm
     simp only [Bool.and_eq_true, decide_eq_true_eq] at hm
     omega
    obtain ⟨s0, hs0⟩ : ∃ s0 : GS, s0.1 = s := ⟨⟨s, hst⟩, rfl⟩
    obtain ⟨y, hy⟩ := exq (goT F fs k s0)
    have hgy : Good fs y.1 := by rw [← hy]; exact b1y hOp hp (by omega) _ _ (by rw [hs0]; exact hg)
    refine d5b (y1 := y.1.fr.length) (y2 := y.1.tb.length) (y3 := y.1.out.length) (Z := y.1) hf3 (by simp; omega) (by simp) (by simp; omega) hE3 (fun u hu => ?_) (fun u hu => ?_) (fun a b c a' b' c' u h h' => a6y a b c a' b' c' y.1 u h h' (c6v hgy)) (hret hb3)
    ·have hu' := ext3 hb3 hu
     subst hs0
     refine (d5a hOp (fuel := k) (by omega) u (hT.on (ext3 E1 hu')) (aF u hu') (aS u hu') hm y.1 (by rw [hy])).mono ?_
     rintro e w' ⟨F2, f2, T2, t2, U2, p2, fw2, tw2, rfl, hY2, hb⟩
     exact ⟨_, _, _, _, _, _, rfl, hY2.stin, hb⟩
    ·have hu' := ext3 hb3 hu
     subst hs0
     refine (d0u hOp (fuel := k) (by omega) u (hT.on (ext3 E1 hu')) (aF u hu') (aS u hu') hp hg u.heap.size (Nat.le_refl _) (aS u hu').t [] (by simp) y.1 (by rw [hy])).mono ?_
     rintro e w' ⟨x1, x2, x3, h1, h2, h3⟩
     have h2' := h2 w' (Nat.le_refl _) (fun _ _ _ => rfl)
     obtain ⟨i1, j1, rfl, _, _⟩ := id h2'.f
     obtain ⟨i2, j2, rfl, _, _⟩ := id h2'.t
     obtain ⟨i3, j3, rfl, _, _⟩ := id h2'.o
     exact ⟨_, _, _, _, _, _, h1, h2', h3⟩
   ·refine c6q hf3 ?_ hE3 (fun u hu => c6s u (aF u (ext3 hb3 hu)) (aS u (ext3 hb3 hu)) hm ?_) (fun u _ => q10 u) (hret hb3)
    ·by_cases h1 : 4000 < fuel
     ·exact .inr ⟨by simpa using h1, by simp; omega, by simp; omega, by simp; omega⟩
     ·exact .inl ⟨by simpa using h1, by simp; omega⟩
    ·simp [frB]; omega
 have qm := fun u (hu : Below w2.heap.size w2 u) => b5x ca cc fs mn u (aF u (ext3 hb2 hu))
 have q9 := fun u (hu : Below w2.heap.size w2 u) => b3a ca cc fs mn u (aF u (ext3 hb2 hu))
 cases hp : a2i fs mn
 ·rw [hp] at qm q9
  exact d3b hf2 hE2 (fun u hu => c2d ca fs.length cc mn u (fun v hv => qm v (ext3 hu hv))) q9 (fun u _ => q10 u) main
 ·rw [hp] at qm q9
  obtain ⟨n, f, rfl, hf⟩ := d0v hp
  have hn := (List.getElem?_eq_some_iff.1 hf).1
  have hk := a5r hp hf
  have r1 := hk.r1
  have r2 := hk.r2
  obtain ⟨r, hr⟩ : ∃ r : Nat, f.r = r := ⟨f.r.toNat, by omega⟩
  obtain ⟨b, off, rfl, hb, hel⟩ := hF.2 (fun e => by rw [e] at hn; simp at hn)
  have d1 := (hel n f hf).1.r
  rw [hr] at d1
  refine d3c (S := begS n r) hf2 hE2 (fun u hu => ?_) q9 (fun u hu => ?_) (fun F1 F2 u h h' => a6y _ _ _ _ _ _ (begS n r) u h h' (by simp [begS])) main
  ·refine (b4v b off fs.length cc n r u hn (a0l (ext3 (ext3 E1 hb2) hu) d1) (by omega) (fun v hv => qm v (ext3 hu hv))).mono ?_
   rintro e w' ⟨F1, g1, rfl, hO1, hF1, _, _, _, hb1⟩
   exact ⟨F1, rfl, b6k hO1 hF1, hb1⟩
  ·refine (b3j b off fs.length cc n r u hn (a0l (ext3 (ext3 E1 hb2) hu) d1) (by omega)).mono ?_
   rintro e w' ⟨F1, g1, rfl, hO1, hF1, _, _, _, hb1⟩
   exact ⟨F1, rfl, b6k hO1 hF1, hb1⟩
end
end Go.Proofs.YthpgbienakcbeaaGreatDoor
