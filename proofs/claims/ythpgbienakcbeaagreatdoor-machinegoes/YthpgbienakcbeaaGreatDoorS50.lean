/- Going on: machine.Go. -/
import Derived.Test.YthpgbienakcbeaaGreatDoorS44
import Derived.Test.YthpgbienakcbeaaGreatDoorS49
import Derived.Test.YthpgbienakcbeaaGreatDoorS46
import Derived.Deep.LoopGhost
namespace Go.Proofs.YthpgbienakcbeaaGreatDoor
open Go.RowKit Go
set_option maxRecDepth 100000
set_option maxHeartbeats 8000000
set_option linter.all false
variable {fs : List Fd} {mn fuel p2 st en er lk ln : Int} {tm : Array Value} {W w : World} {B cc nf n1 fc nt tc no oc k : Nat} {a b c d e f g h i x fv tv ov : Value} {ca fa ta oa : Option Addr} {s : St} {p7 : Bool} {K : Exit → Act → World → Prop} {ls : ByteArray}
section
variable [DecidableEq Vl]
theorem b6h (F : Int → Vl → Vl → Vl × Int) (fs : List Fd) (s : St) : (a6s F fs s).st = s.st + 1 := by
 unfold a6s
 cases s.fr.getLast? with
 | none => rfl
 | some x =>
  simp only
  cases orderAt fs x with
  | none => rfl
  | some o =>
   simp only
   cases h : doR F fs o s.fr.dropLast x { s with st := s.st + 1 } with
   | inl c => rfl
   | inr t =>
    simp only
    unfold doR at h
    repeat' (split at h)
    all_goals first | (cases h; rfl) | cases h
def GS : Type := { s : St // 0 ≤ s.st }
def b0f (F : Int → Vl → Vl → Vl × Int) (fs : List Fd) (s : GS) : GS := ⟨a6s F fs s.1, by rw [b6h]; have := s.2; omega⟩
def a6z (s : GS) : Bool := decide (s.1.en = 0)
def stS (s : GS) : Nat := s.1.st.toNat
theorem b6i (F : Int → Vl → Vl → Vl × Int) (fs : List Fd) (s : GS) : stS (b0f F fs s) = stS s + 1 := by
 have := s.2
 show (a6s F fs s.1).st.toNat = s.1.st.toNat + 1
 rw [b6h]
 omega
def goT (F : Int → Vl → Vl → Vl × Int) (fs : List Fd) (fuel : Nat) (s : GS) : GS := goP (b0f F fs) a6z stS fuel fuel s
theorem b1y {F : Int → Vl → Vl → Vl × Int} (hF : OpF F) {fs : List Fd} {mn : Int} (hp : a2i fs mn = true) {fuel : Nat} (hf : fuel ≤ 60000) : ∀ (k : Nat) (s : GS), Good fs s.1 → Good fs (goP (b0f F fs) a6z stS fuel k s).1
 | 0, _, h => h
 | k + 1, s, h => by
  rw [goP]
  split
  ·rename_i hc
   refine b1y hF hp hf k _ (a9v hF hp h (by simpa [a6z] using hc.1) ?_)
   have := hc.2
   have := s.2
   unfold stS at *
   omega
  ·exact h
theorem b0z (hp : a2i fs mn = true) : ∀ f ∈ fs, f.r ≤ 1000 := fun f hf => by
 obtain ⟨j, hj⟩ := List.mem_iff_getElem?.1 hf
 have := (a5r hp hj).r2
 omega
theorem d0r (hp : tm[6]?.getD undef = .pointer (some ⟨B, 0, none⟩)) (hq : tm[7]?.getD undef = x) (hx : W.heap[B]? = some (.cells #[a, b, c, d, e, f, g, h, i] 32)) : (results Tryz.f12 tm).run Tryz.prog W = .ok (.tuple #[.agg #[a, b, c, d, e, f, g, h, i], x]) W := by
 obtain ⟨d0, d1, d2, d3, d4, d5, d6, d7, d8⟩ := nine hx
 simp [results, Tryz.results12, go_sem, hp, hq, d0, d1, d2, d3, d4, d5, d6, d7, d8]
def set9 (W : World) (B : Nat) (a b c d e f g h i : Value) : World := ((((((((W.setCell ⟨B, 0, none⟩ a).setCell ⟨B, 1, none⟩ b).setCell ⟨B, 2, none⟩ c).setCell ⟨B, 3, none⟩ d).setCell ⟨B, 4, none⟩ e).setCell ⟨B, 5, none⟩ f).setCell ⟨B, 6, none⟩ g).setCell ⟨B, 7, none⟩ h).setCell ⟨B, 8, none⟩ i
theorem a1y {a' b' c' d' e' f' g' h' i' : Value} (hx : W.heap[B]? = some (.cells #[a', b', c', d', e', f', g', h', i'] 32)) : (set9 W B a b c d e f g h i).heap[B]? = some (.cells #[a, b, c, d, e, f, g, h, i] 32) := by
 have k := a0k (i := 8) i (a0k (i := 7) h (a0k (i := 6) g (a0k (i := 5) f (a0k (i := 4) e (a0k (i := 3) d (a0k (i := 2) c (a0k (i := 1) b (a0k (i := 0) a hx))))))))
 simp only [List.setIfInBounds_toArray, List.set_cons_zero, List.set_cons_succ] at k
 exact k
theorem c6p (W : World) (B : Nat) (a b c d e f g h i : Value) : Beh B W (set9 W B a b c d e f g h i) :=
 (((((((((Beh.refl _ _).set (Nat.le_refl _) _ _).set (Nat.le_refl _) _ _).set (Nat.le_refl _) _ _).set (Nat.le_refl _) _ _).set (Nat.le_refl _) _ _).set (Nat.le_refl _) _ _).set (Nat.le_refl _) _ _).set (Nat.le_refl _) _ _).set (Nat.le_refl _) _ _
theorem a1z {m : Nat} (hb : Below m w W) (hB : m ≤ B) (a b c d e f g h i : Value) : Below m w (set9 W B a b c d e f g h i) :=
 ((((((((hb.setCell (p := ⟨B, 0, none⟩) hB _).setCell (p := ⟨B, 1, none⟩) hB _).setCell (p := ⟨B, 2, none⟩) hB _).setCell (p := ⟨B, 3, none⟩) hB _).setCell (p := ⟨B, 4, none⟩) hB _).setCell (p := ⟨B, 5, none⟩) hB _).setCell (p := ⟨B, 6, none⟩) hB _).setCell (p := ⟨B, 7, none⟩) hB _).setCell (p := ⟨B, 8, none⟩) hB _
theorem frz {c : Array Value} {t : TypeId} (h : W.heap[B]? = some (.cells c t)) : W.frozen? ⟨B, 0, none⟩ = false ∧ W.frozen? ⟨B, 1, none⟩ = false ∧ W.frozen? ⟨B, 2, none⟩ = false ∧ W.frozen? ⟨B, 3, none⟩ = false ∧ W.frozen? ⟨B, 4, none⟩ = false ∧ W.frozen? ⟨B, 5, none⟩ = false ∧ W.frozen? ⟨B, 6, none⟩ = false ∧ W.frozen? ⟨B, 7, none⟩ = false ∧ W.frozen? ⟨B, 8, none⟩ = false :=
 ⟨a0e h, a0e h, a0e h, a0e h, a0e h, a0e h, a0e h, a0e h, a0e h⟩
structure GI (w1 : World) (F : Int → Vl → Vl → Vl × Int) (cv : Value) (mn : Int) (fs : List Fd) (fuel : Nat) (R : GS) (B : Nat) (k : Nat) (wr : World) : Prop where
 ex : ∃ (p : Mp) (t : GS), p.B = B ∧ Mc w1 p cv mn t.1 wr ∧ Good fs t.1 ∧ goP (b0f F fs) a6z stS fuel k t = R ∧ fuel ≤ stS t + k
theorem d5a {F : Int → Vl → Vl → Vl × Int} (hOp : OpF F) {fuel : Nat} (hfu : fuel ≤ 60000) {s : GS} (W : World) (hT : PTab W) (hF : RowF W.heap.size W ca fs) (hS : StIn W.heap.size W fv tv ov s.1) (hb : stB1 fs mn s.1 = true) (t : St) (htt : t = (goT F fs fuel s).1) :
  Calls Tryz.prog 12 #[PV ca fs.length cc mn, stv fv tv ov s.1, .int .i64 fuel] W fun r w' => ∃ F fc T tc U uc fw tw, r = .returned (.tuple #[stv (.slice (some ⟨F, 0, none⟩) t.fr.length fc) (.slice (some ⟨T, 0, none⟩) t.tb.length tc) (.slice (some ⟨U, 0, none⟩) t.out.length uc) t, .int .i64 0]) ∧ FS W.heap.size w' F fc T tc U uc fw tw t ∧ Below W.heap.size W w' := by
 obtain ⟨hp, hg⟩ := b6f.1 hb
 obtain ⟨w1, hw1⟩ := exq (((W.alloc (.cells #[.slice ca fs.length cc, .int .i64 mn] 24)).alloc (stb fv tv ov s.1)).alloc zst)
 have E1 : Below W.heap.size W w1 := by rw [← hw1]; exact a0c (a0c (a0c (Below.refl _ _) _) _) _
 have g0 : w1.heap[W.heap.size]? = some (.cells #[.slice ca fs.length cc, .int .i64 mn] 24) := by
  rw [← hw1]; exact a0j (a0c (a0c (Below.refl _ _) _) _) (a0h _ _)
 have g1 : w1.heap[W.heap.size + 1]? = some (stb fv tv ov s.1) := by
  rw [← hw1]; exact a0j (a0c (Below.refl _ _) _) (a6w W _ _)
 have g2 : w1.heap[W.heap.size + 1 + 1]? = some zst := by rw [← hw1]; simpa using a0h ((W.alloc _).alloc _) _
 have q1 : ∀ u, Below w1.heap.size w1 u → Calls Tryz.prog 6 #[PV ca fs.length cc mn, stv fv tv ov s.1] u _ := fun u hu => a9e u ((hF.at E1).at hu) ((hS.at E1).at hu)
 rw [hb] at q1
 have q2 : ∀ u, Below w1.heap.size w1 u → Calls Tryz.prog 30 #[PV ca fs.length cc mn, stv fv tv ov s.1] u _ := fun u hu => d0i (.slice ca fs.length cc) fv tv ov ca fs.length cc rfl mn s.1 u ((hS.at E1).at hu) (hg.small (b0z hp))
 have q3 : ∀ u (p : Mp) (t : GS) (W' : World), Below w1.heap.size w1 u → Mc u p (.slice ca fs.length cc) mn t.1 W' → Good fs t.1 → t.1.st < 60000 → Calls Tryz.prog 31 #[.pointer (some ⟨p.B, 0, none⟩)] W' _ := fun u p t W' hu hM hG h60 => c2c hOp hp ⟨ca, cc, rfl, (hF.at E1).at hu⟩ (hT.on (a0b E1 hu)) hM hG h60
 have q4 : ∀ (u : World) (p : Mp) (W' : World), Mc u p (.slice ca fs.length cc) mn t W' → Good fs t → Calls Tryz.prog 32 #[.pointer (some ⟨p.B, 0, none⟩)] W' _ := fun u p W' hM hG => b7p hM (hG.small (b0z hp))
 have q5 := fun w => a8c 0 fuel 60000 w
 rw [show frB 0 (fuel : Int) 60000 = true by simp [frB]; omega] at q5
 obtain ⟨fa, fc, rfl, _, _⟩ := hS.f
 obtain ⟨ta, tc, rfl, _, _⟩ := hS.t
 obtain ⟨oa, oc, rfl, _, _⟩ := hS.o
 have hsg : ∀ t : GS, Good fs t.1 → t.1.en = 0 → t.1.st < 60000 → Good fs (b0f F fs t).1 := fun t h1 h2 h3 => a9v hOp hp h1 h2 h3
 obtain ⟨nf, hnf⟩ := exq (fs.length)
 obtain ⟨n1, hn1⟩ := exq (s.1.fr.length)
 obtain ⟨n2, hn2⟩ := exq (s.1.tb.length)
 obtain ⟨n3, hn3⟩ := exq (s.1.out.length)
 obtain ⟨t1, ht1⟩ := exq (t.fr.length)
 obtain ⟨t2, ht2⟩ := exq (t.tb.length)
 obtain ⟨t3, ht3⟩ := exq (t.out.length)
 rw [hnf] at q1 q2 q3 q4 g0 hw1 ⊢
 rw [hn1, hn2, hn3] at q1 q2 g1 hw1 ⊢
 rw [ht1, ht2, ht3] at q4 ⊢
 clear hF hS hnf hn1 hn2 hn3 hb ht1 ht2 ht3
 replace q1 : Hid _ := q1
 replace q2 : Hid _ := q2
 replace q3 : Hid _ := q3
 replace q4 : Hid _ := q4
 replace q5 : Hid _ := q5
 replace hsg : Hid _ := hsg
 have a0 := a0a (i := 0) g0 rfl
 have a1 := a0a (i := 1) g0 rfl
 obtain ⟨b0, b1, b2, b3, b4, b5, b6, b7, b8⟩ := nine g1
 go_enter Tryz.func12, Tryz.ntmps12
 go_wp2_with (first | (go_at_call 6; refine (q1.out _ (Below.refl _ _)).mono ?_; rintro e w2 ⟨rfl, hb2⟩; have A0 := a0l hb2 a0; have A1 := a0l hb2 a1; have B0 := a0l hb2 b0; have B1 := a0l hb2 b1; have B2 := a0l hb2 b2; have B3 := a0l hb2 b3; have B4 := a0l hb2 b4; have B5 := a0l hb2 b5; have B6 := a0l hb2 b6; have B7 := a0l hb2 b7; have B8 := a0l hb2 b8) | (go_at_call 29; refine (q5.out _).mono ?_; rintro e w' ⟨rfl, hw'⟩; subst w') | (go_at_call 30; refine (q2.out _ hb2).mono ?_; rintro e w3 ⟨p, rfl, _, hM⟩; refine Hid.out ?_))
 refine Lib.hid ?_
 clear a0 a1 b0 b1 b2 b3 b4 b5 b6 b7 b8 A0 A1 B0 B1 B2 B3 B4 B5 B6 B7 B8
 have e3 := hM.bl
 have f2 := a0j (a0b hb2 e3) g2
 have hR : goP (b0f F fs) a6z stS fuel fuel s = goT F fs fuel s := rfl
 obtain ⟨R, hRR⟩ := exq (goT F fs fuel s)
 rw [hRR] at hR htt
 have hI : GI w2 F (.slice ca nf cc) mn fs fuel R p.B fuel w3 := ⟨p, s, rfl, hM, hg, hR, by omega⟩
 obtain ⟨B, hB⟩ := exq (p.B)
 rw [hB] at hI ⊢
 have hg3 : w2.heap[W.heap.size + 1 + 1]? = some zst := a0j hb2 g2
 have E2 := a0b E1 hb2
 clear hM e3 f2 hR hRR hB hg g0 g1 g2 hw1
 go_wp2
 go_loopg [21] fuel (fun k _ wr => GI w2 F (.slice ca nf cc) mn fs fuel R B k wr)
 case atStart => exact hI
 case round =>
  clear hI
  obtain ⟨p, x, rfl, hM, hg, hR, hk⟩ := hrel.ex
  clear hrel
  obtain ⟨_, _, _, _, _, c5, c6, _⟩ := hM.cells
  obtain ⟨st, hst⟩ := exq (x.1.st)
  obtain ⟨en, hen⟩ := exq (x.1.en)
  rw [hst] at c5
  rw [hen] at c6
  by_cases hgo : en = 0 ∧ st < fuel
  ·obtain ⟨h1, h2⟩ := hgo
   have h6 : (en == 0) = true := by simpa using h1
   have hs2 := x.2
   rw [hst] at hs2
   have hk0 : 0 < gk := by
    have : stS x = st.toNat := by rw [← hst]; rfl
    omega
   obtain ⟨k', rfl⟩ : ∃ k', gk = k' + 1 := ⟨gk - 1, by omega⟩
   have hl : a6z x = true ∧ stS x < fuel := ⟨by simp [a6z, hen, h1], by show x.1.st.toNat < fuel; omega⟩
   have hnx : ∀ W' p', p'.B = p.B → Mc w2 p' (.slice ca nf cc) mn (a6s F fs x.1) W' → GI w2 F (.slice ca nf cc) mn fs fuel R p.B k' W' := fun W' p' e hM' => ⟨p', b0f F fs x, e, hM', hsg.out x hg (by rw [hen]; exact h1) (by omega), by rw [goP, if_pos hl] at hR; exact hR, by rw [b6i]; omega⟩
   have hstep := q3.out w2 p x wr hb2 hM hg (by omega)
   replace hnx : Hid _ := hnx
   clear hM hg hR hk hl hst hen h1 hk0 hs2
   go_wp2_with (go_at_call 31; refine hstep.mono ?_; rintro e w4 ⟨rfl, p', e1, _, hM4, _⟩)
   go_roundg k'
   case measure => omega
   case rel => exact hnx.out _ p' e1 hM4
  ·have hs2 := x.2
   have hl : ¬ (a6z x = true ∧ stS x < fuel) := fun hl => hgo ⟨by rw [← hen]; simpa [a6z] using hl.1, by have := hl.2; unfold stS at this; omega⟩
   rw [b4z hl] at hR
   rw [← hR] at htt
   rw [← htt] at hM hg
   have hf := q4.out w2 p wr hM hg
   have e3 := hM.bl
   have G2 := a0j e3 hg3
   have z2 : W.heap.size + 1 + 1 < wr.heap.size := a0n G2
   clear hM hg hR hk hl hst hen hs2 htt
   have hd : (en == 0) = false ∨ ((en == 0) = true ∧ decide (st < fuel) = false) := by
    by_cases h : en = 0
    ·right
     exact ⟨by simpa using h, by simp; by_cases h2 : st < fuel; exact absurd ⟨h, h2⟩ hgo; omega⟩
    ·left
     simpa using h
   clear hgo
   rcases hd with h6 | ⟨h6, h5⟩
   all_goals
    go_wp2_with (go_at_call 32; refine hf.mono ?_; rintro e w4 ⟨F', fc', T', tc', U', uc', fw', tw', rfl, hFS, hb4⟩; refine Hid.out ?_)
    refine Lib.hid ?_
    have G4 := a0d hb4 G2
    obtain ⟨m0, m1, m2, m3, m4, m5, m6, m7, m8⟩ := nine G4
    obtain ⟨z00, z01, z02, z03, z04, z05, z06, z07, z08⟩ := frz G4
    obtain ⟨Y, hY⟩ := exq (set9 w4 (W.heap.size + 1 + 1) (.slice (some ⟨F', 0, none⟩) t1 fc') (.slice (some ⟨T', 0, none⟩) t2 tc') (.slice (some ⟨U', 0, none⟩) t3 uc') (.int .i64 t.st) (.int .i64 t.en) (.int .i64 t.er) (.int .i64 t.la.k) (.int .i64 t.la.n) (.string t.la.s))
    have P1 : Y.heap[W.heap.size + 1 + 1]? = some (stb (.slice (some ⟨F', 0, none⟩) t1 fc') (.slice (some ⟨T', 0, none⟩) t2 tc') (.slice (some ⟨U', 0, none⟩) t3 uc') t) := by rw [← hY]; exact a1y G4
    have E5 : Below W.heap.size W Y := by rw [← hY]; exact a1z (a0b (a0b E2 e3) hb4) (by omega) _ _ _ _ _ _ _ _ _
    have B5 : Beh (W.heap.size + 1 + 1) w4 Y := by rw [← hY]; exact c6p _ _ _ _ _ _ _ _ _ _ _
    unfold set9 at hY
    go_wp2
    exact bodyPost_ret (d0r (B := W.heap.size + 1 + 1) rfl rfl P1) rfl ⟨F', fc', T', tc', U', uc', fw', tw', rfl, (hFS.keep B5 z2).weak (by have := e3.size; have := E2.size; omega), E5⟩
structure Fr3 (a : Act) (p2 : Int) (B : Nat) (p7 : Bool) : Prop where
 sz : a.tmps.size = 92
 df : a.defers = []
 g2 : a.tmps.getD 2 undef = .int .i64 p2
 g3 : a.tmps.getD 3 undef = .pointer (some ⟨B, 0, none⟩)
 g4 : a.tmps.getD 4 undef = .pointer (some ⟨B + 1, 0, none⟩)
 g7 : a.tmps.getD 7 undef = .bool p7
theorem Fr3.lit {a : Act} (h : Fr3 a p2 B p7) : ∃ x : Nat → Value, a = { tmps := #[x 0, x 1, .int .i64 p2, .pointer (some ⟨B, 0, none⟩), .pointer (some ⟨B + 1, 0, none⟩), x 5, x 6, .bool p7, x 8, x 9, x 10, x 11, x 12, x 13, x 14, x 15, x 16, x 17, x 18, x 19, x 20, x 21, x 22, x 23, x 24, x 25, x 26, x 27, x 28, x 29, x 30, x 31, x 32, x 33, x 34, x 35, x 36, x 37, x 38, x 39, x 40, x 41, x 42, x 43, x 44, x 45, x 46, x 47, x 48, x 49, x 50, x 51, x 52, x 53, x 54, x 55, x 56, x 57, x 58, x 59, x 60, x 61, x 62, x 63, x 64, x 65, x 66, x 67, x 68, x 69, x 70, x 71, x 72, x 73, x 74, x 75, x 76, x 77, x 78, x 79, x 80, x 81, x 82, x 83, x 84, x 85, x 86, x 87, x 88, x 89, x 90, x 91], defers := [] } ∧ ∀ k, x k = a.tmps.getD k undef := by
 refine ⟨fun k => a.tmps.getD k undef, ?_, fun _ => rfl⟩
 have e := b1c a.tmps 92 h.sz
 have e2 : ((List.range 92).map fun k => a.tmps.getD k undef).toArray = (let x := (fun k => a.tmps.getD k undef); #[x 0, x 1, x 2, x 3, x 4, x 5, x 6, x 7, x 8, x 9, x 10, x 11, x 12, x 13, x 14, x 15, x 16, x 17, x 18, x 19, x 20, x 21, x 22, x 23, x 24, x 25, x 26, x 27, x 28, x 29, x 30, x 31, x 32, x 33, x 34, x 35, x 36, x 37, x 38, x 39, x 40, x 41, x 42, x 43, x 44, x 45, x 46, x 47, x 48, x 49, x 50, x 51, x 52, x 53, x 54, x 55, x 56, x 57, x 58, x 59, x 60, x 61, x 62, x 63, x 64, x 65, x 66, x 67, x 68, x 69, x 70, x 71, x 72, x 73, x 74, x 75, x 76, x 77, x 78, x 79, x 80, x 81, x 82, x 83, x 84, x 85, x 86, x 87, x 88, x 89, x 90, x 91] : Array Value) := rfl
 rw [e2] at e
 simp only [h.g2, h.g3, h.g4, h.g7] at e
 obtain ⟨t, d⟩ := a
 obtain rfl : d = [] := h.df
 simp only at e
 exact congrArg (fun t => ({ tmps := t, defers := [] } : Act)) e
theorem d0s {nf cc n1 fc nt tc no oc : Nat} {ca fa ta oa : Option Addr} {mn st en er lk ln : Int} {ls : ByteArray} {a : Act} (hfr : Fr3 a p2 B p7) (d1 : decide (4000 < p2) = true) (d2 : decide (p2 ≤ 60000) = true) (hK : ∀ a' w', a'.defers = [] → a'.tmps.getD 6 undef = .bool true → Below w.heap.size w w' → K .ret a' w') :
  Code.wp Tryz.prog ((Tryz.f3.body.bind (seqIn2 10)).getD .skip) K a w := by
 obtain ⟨x, hx, hk⟩ := hfr.lit
 clear hk hfr
 subst hx
 conv => arg 2; whnf
 replace hK : Hid _ := hK
 go_wp2
 exact hK.out _ _ rfl rfl (Below.refl _ _)
theorem ext3 {a b c : World} (h : Below a.heap.size a b) (k : Below b.heap.size b c) : Below a.heap.size a c := h.trans (k.mono h.size)
theorem d2y {a : Act} (hfr : Fr3 a p2 B false) (hi : decide (4000 < p2) = false ∨ (decide (4000 < p2) = true ∧ decide (p2 ≤ 60000) = false)) (hS : ∀ u, Below w.heap.size w u → S7 u B ca nf cc mn fa n1 fc ta nt tc oa no oc st en er lk ln ls) (q12 : ∀ u, Below w.heap.size w u → Calls Tryz.prog 12 #[.agg #[.slice ca nf cc, .int .i64 mn], .agg #[.slice fa n1 fc, .slice ta nt tc, .slice oa no oc, .int .i64 st, .int .i64 en, .int .i64 er, .int .i64 lk, .int .i64 ln, .string ls], .int .i64 p2] u fun e w' => e = .returned (.tuple #[.agg #[.slice none 0 0, .slice none 0 0, .slice none 0 0, .int .i64 0, .int .i64 0, .int .i64 0, .int .i64 0, .int .i64 0, .string ⟨#[]⟩], .int .i64 2] ) ∧ Below u.heap.size u w') (q10 : ∀ u, Below w.heap.size w u → Calls Tryz.prog 10 #[.agg #[.slice none 0 0, .slice none 0 0, .slice none 0 0, .int .i64 0, .int .i64 0, .int .i64 0, .int .i64 0, .int .i64 0, .string ⟨#[]⟩], .agg #[.slice none 0 0, .slice none 0 0, .slice none 0 0, .int .i64 0, .int .i64 0, .int .i64 0, .int .i64 0, .int .i64 0, .string ⟨#[]⟩]] u fun e w' => e = .returned (.bool true) ∧ Below u.heap.size u w') (hK : ∀ a' w', a'.defers = [] → a'.tmps.getD 6 undef = .bool true → Below w.heap.size w w' → K .ret a' w') :
  Code.wp Tryz.prog ((Tryz.f3.body.bind (seqIn2 10)).getD .skip) K a w := by
 obtain ⟨x, hx, hk⟩ := hfr.lit
 clear hk hfr
 subst hx
 conv => arg 2; whnf
 obtain ⟨_, _, _, _, _, _, _, _, _, _, _⟩ := hS _ (Below.refl _ _)
 replace hK : Hid _ := hK
 replace hS : Hid _ := hS
 replace q12 : Hid _ := q12
 replace q10 : Hid _ := q10
 rcases hi with d1 | ⟨d1, d2⟩
 all_goals
  go_wp2_with (go_at_call 12; refine Hid.out ?_)
  refine Lib.hid ?_
  refine (q12.out _ (Below.refl _ _)).mono ?_
  rintro e u1 ⟨rfl, hb1⟩
  obtain ⟨v1, hv1⟩ := exq (u1.alloc (.cells #[.slice none 0 0, .slice none 0 0, .slice none 0 0, .int .i64 0, .int .i64 0, .int .i64 0, .int .i64 0, .int .i64 0, .string ⟨#[]⟩] 32))
  have N1 : Below u1.heap.size u1 v1 := by rw [← hv1]; exact (Below.refl _ _).alloc (Nat.le_refl _) _
  have G1 : v1.heap[u1.heap.size]? = some (.cells #[.slice none 0 0, .slice none 0 0, .slice none 0 0, .int .i64 0, .int .i64 0, .int .i64 0, .int .i64 0, .int .i64 0, .string ⟨#[]⟩] 32) := by rw [← hv1]; exact a3h _ _
  obtain ⟨m0, m1, m2, m3, m4, m5, m6, m7, m8⟩ := nine G1
  obtain ⟨z0, z1, z2, z3, z4, z5, z6, z7, z8⟩ := frz G1
  obtain ⟨Y, hY⟩ := exq (set9 v1 u1.heap.size (.slice none 0 0) (.slice none 0 0) (.slice none 0 0) (.int .i64 0) (.int .i64 0) (.int .i64 0) (.int .i64 0) (.int .i64 0) (.string ⟨#[]⟩))
  have P1 : Y.heap[u1.heap.size]? = some (.cells #[.slice none 0 0, .slice none 0 0, .slice none 0 0, .int .i64 0, .int .i64 0, .int .i64 0, .int .i64 0, .int .i64 0, .string ⟨#[]⟩] 32) := by rw [← hY]; exact a1y G1
  have N2 : Below u1.heap.size u1 Y := by rw [← hY]; exact a1z N1 (Nat.le_refl _) _ _ _ _ _ _ _ _ _
  unfold set9 at hY
  obtain ⟨y0, y1, y2, y3, y4, y5, y6, y7, y8⟩ := nine P1
  go_wp2_with (go_at_call 10; refine Hid.out ?_)
  refine Lib.hid ?_
  refine (q10.out _ (ext3 hb1 N2)).mono ?_
  rintro e u2 ⟨rfl, hb2⟩
  go_wp2
  exact hK.out _ _ rfl rfl (ext3 (ext3 hb1 N2) hb2)
theorem c6q {a : Act} (hfr : Fr3 a p2 B true) (hi : (decide (4000 < p2) = false ∧ decide (p2 < 0) = true) ∨ (decide (4000 < p2) = true ∧ decide (p2 ≤ 60000) = false ∧ decide (p2 < 0) = false ∧ decide (60000 < p2) = true)) (hS : ∀ u, Below w.heap.size w u → S7 u B ca nf cc mn fa n1 fc ta nt tc oa no oc st en er lk ln ls) (q12 : ∀ u, Below w.heap.size w u → Calls Tryz.prog 12 #[.agg #[.slice ca nf cc, .int .i64 mn], .agg #[.slice fa n1 fc, .slice ta nt tc, .slice oa no oc, .int .i64 st, .int .i64 en, .int .i64 er, .int .i64 lk, .int .i64 ln, .string ls], .int .i64 p2] u fun e w' => e = .returned (.tuple #[.agg #[.slice none 0 0, .slice none 0 0, .slice none 0 0, .int .i64 0, .int .i64 0, .int .i64 0, .int .i64 0, .int .i64 0, .string ⟨#[]⟩], .int .i64 6] ) ∧ Below u.heap.size u w') (q10 : ∀ u, Below w.heap.size w u → Calls Tryz.prog 10 #[.agg #[.slice none 0 0, .slice none 0 0, .slice none 0 0, .int .i64 0, .int .i64 0, .int .i64 0, .int .i64 0, .int .i64 0, .string ⟨#[]⟩], .agg #[.slice none 0 0, .slice none 0 0, .slice none 0 0, .int .i64 0, .int .i64 0, .int .i64 0, .int .i64 0, .int .i64 0, .string ⟨#[]⟩]] u fun e w' => e = .returned (.bool true) ∧ Below u.heap.size u w') (hK : ∀ a' w', a'.defers = [] → a'.tmps.getD 6 undef = .bool true → Below w.heap.size w w' → K .ret a' w') :
  Code.wp Tryz.prog ((Tryz.f3.body.bind (seqIn2 10)).getD .skip) K a w := by
 obtain ⟨x, hx, hk⟩ := hfr.lit
 clear hk hfr
 subst hx
 conv => arg 2; whnf
 obtain ⟨_, _, _, _, _, _, _, _, _, _, _⟩ := hS _ (Below.refl _ _)
 replace hK : Hid _ := hK
 replace hS : Hid _ := hS
 replace q12 : Hid _ := q12
 replace q10 : Hid _ := q10
 rcases hi with ⟨d1, d2⟩ | ⟨d1, d2, d3, d4⟩
 all_goals
  go_wp2_with (go_at_call 12; refine Hid.out ?_)
  refine Lib.hid ?_
  refine (q12.out _ (Below.refl _ _)).mono ?_
  rintro e u1 ⟨rfl, hb1⟩
  obtain ⟨v1, hv1⟩ := exq (u1.alloc (.cells #[.slice none 0 0, .slice none 0 0, .slice none 0 0, .int .i64 0, .int .i64 0, .int .i64 0, .int .i64 0, .int .i64 0, .string ⟨#[]⟩] 32))
  have N1 : Below u1.heap.size u1 v1 := by rw [← hv1]; exact (Below.refl _ _).alloc (Nat.le_refl _) _
  have G1 : v1.heap[u1.heap.size]? = some (.cells #[.slice none 0 0, .slice none 0 0, .slice none 0 0, .int .i64 0, .int .i64 0, .int .i64 0, .int .i64 0, .int .i64 0, .string ⟨#[]⟩] 32) := by rw [← hv1]; exact a3h _ _
  obtain ⟨m0, m1, m2, m3, m4, m5, m6, m7, m8⟩ := nine G1
  obtain ⟨z0, z1, z2, z3, z4, z5, z6, z7, z8⟩ := frz G1
  obtain ⟨Y, hY⟩ := exq (set9 v1 u1.heap.size (.slice none 0 0) (.slice none 0 0) (.slice none 0 0) (.int .i64 0) (.int .i64 0) (.int .i64 0) (.int .i64 0) (.int .i64 0) (.string ⟨#[]⟩))
  have P1 : Y.heap[u1.heap.size]? = some (.cells #[.slice none 0 0, .slice none 0 0, .slice none 0 0, .int .i64 0, .int .i64 0, .int .i64 0, .int .i64 0, .int .i64 0, .string ⟨#[]⟩] 32) := by rw [← hY]; exact a1y G1
  have N2 : Below u1.heap.size u1 Y := by rw [← hY]; exact a1z N1 (Nat.le_refl _) _ _ _ _ _ _ _ _ _
  unfold set9 at hY
  obtain ⟨y0, y1, y2, y3, y4, y5, y6, y7, y8⟩ := nine P1
  go_wp2_with (go_at_call 10; refine Hid.out ?_)
  refine Lib.hid ?_
  refine (q10.out _ (ext3 hb1 N2)).mono ?_
  rintro e u2 ⟨rfl, hb2⟩
  go_wp2
  exact hK.out _ _ rfl rfl (ext3 (ext3 hb1 N2) hb2)
theorem d5b {a : Act} {y1 y2 y3 : Nat} {Z : St} (hfr : Fr3 a k B true) (d1 : decide ((4000 : Int) < k) = false) (d2 : decide ((k : Int) < 0) = false) (d3 : decide ((60000 : Int) < k) = false) (hS : ∀ u, Below w.heap.size w u → S7 u B ca nf cc mn fa n1 fc ta nt tc oa no oc st en er lk ln ls) (q12 : ∀ u, Below w.heap.size w u → Calls Tryz.prog 12 #[.agg #[.slice ca nf cc, .int .i64 mn], .agg #[.slice fa n1 fc, .slice ta nt tc, .slice oa no oc, .int .i64 st, .int .i64 en, .int .i64 er, .int .i64 lk, .int .i64 ln, .string ls], .int .i64 k] u fun e w' => ∃ (i1 i2 i3 : Option Addr) (j1 j2 j3 : Nat), e = .returned (.tuple #[stv (.slice i1 y1 j1) (.slice i2 y2 j2) (.slice i3 y3 j3) Z, .int .i64 0]) ∧ StIn w'.heap.size w' (.slice i1 y1 j1) (.slice i2 y2 j2) (.slice i3 y3 j3) Z ∧ Below u.heap.size u w') (q13 : ∀ u, Below w.heap.size w u → Calls Tryz.prog 13 #[.agg #[.slice ca nf cc, .int .i64 mn], .agg #[.slice fa n1 fc, .slice ta nt tc, .slice oa no oc, .int .i64 st, .int .i64 en, .int .i64 er, .int .i64 lk, .int .i64 ln, .string ls], .int .i64 k] u fun e w' => ∃ (i1 i2 i3 : Option Addr) (j1 j2 j3 : Nat), e = .returned (stv (.slice i1 y1 j1) (.slice i2 y2 j2) (.slice i3 y3 j3) Z) ∧ StIn w'.heap.size w' (.slice i1 y1 j1) (.slice i2 y2 j2) (.slice i3 y3 j3) Z ∧ Below u.heap.size u w') (q10 : ∀ (a b c a' b' c' : Value) (u : World), StIn u.heap.size u a b c Z → StIn u.heap.size u a' b' c' Z → Calls Tryz.prog 10 #[stv a b c Z, stv a' b' c' Z] u fun e w' => e = .returned (.bool true) ∧ Below u.heap.size u w') (hK : ∀ a' w', a'.defers = [] → a'.tmps.getD 6 undef = .bool true → Below w.heap.size w w' → K .ret a' w') :
  Code.wp Tryz.prog ((Tryz.f3.body.bind (seqIn2 10)).getD .skip) K a w := by
 obtain ⟨x, hx, hk⟩ := hfr.lit
 clear hk hfr
 subst hx
 conv => arg 2; whnf
 obtain ⟨_, _, _, _, _, _, _, _, _, _, _⟩ := hS _ (Below.refl _ _)
 replace hK : Hid _ := hK
 replace hS : Hid _ := hS
 replace q12 : Hid _ := q12
 replace q13 : Hid _ := q13
 replace q10 : Hid _ := q10
 go_wp2_with (go_at_call 12; refine Hid.out ?_)
 refine Lib.hid ?_
 refine (q12.out _ (Below.refl _ _)).mono ?_
 rintro e u1 ⟨i1, i2, i3, j1, j2, j3, rfl, hI1, hb1⟩
 obtain ⟨v1, hv1⟩ := exq (u1.alloc (stb (.slice i1 y1 j1) (.slice i2 y2 j2) (.slice i3 y3 j3) Z))
 have N1 : Below u1.heap.size u1 v1 := by rw [← hv1]; exact (Below.refl _ _).alloc (Nat.le_refl _) _
 have G1 : v1.heap[u1.heap.size]? = some (stb (.slice i1 y1 j1) (.slice i2 y2 j2) (.slice i3 y3 j3) Z) := by rw [← hv1]; exact a3h _ _
 have M1 := ext3 hb1 N1
 obtain ⟨_, _, _, _, _, _, _, _, _, _, _⟩ := hS.out _ M1
 replace hI1 : Hid _ := hI1
 replace hb1 : Hid _ := hb1
 replace N1 : Hid _ := N1
 go_wp2_with (go_at_call 13; refine Hid.out ?_)
 refine Lib.hid ?_
 refine (q13.out _ M1).mono ?_
 rintro e u2 ⟨k1, k2, k3, l1, l2, l3, rfl, hI2, hb2⟩
 clear hv1
 obtain ⟨v2, hv2⟩ := exq (u2.alloc (stb (.slice k1 y1 l1) (.slice k2 y2 l2) (.slice k3 y3 l3) Z))
 have N2 : Below u2.heap.size u2 v2 := by rw [← hv2]; exact (Below.refl _ _).alloc (Nat.le_refl _) _
 have G2 : v2.heap[u2.heap.size]? = some (stb (.slice k1 y1 l1) (.slice k2 y2 l2) (.slice k3 y3 l3) Z) := by rw [← hv2]; exact a3h _ _
 have M2 := ext3 hb2 N2
 obtain ⟨_, _, _, _, _, _, _, _, _⟩ := nine G2
 obtain ⟨_, _, _, _, _, _, _, _, _⟩ := nine (a0j M2 G1)
 have c10 := q10.out _ _ _ _ _ _ v2 ((hI1.out.at N1.out).at M2) (hI2.at N2)
 clear hI2
 have c10' : Hid (∀ u, u = v2 → Calls Tryz.prog 10 #[stv (.slice i1 y1 j1) (.slice i2 y2 j2) (.slice i3 y3 j3) Z, stv (.slice k1 y1 l1) (.slice k2 y2 l2) (.slice k3 y3 l3) Z] u _) := fun u e => by subst e; exact c10
 clear c10
 go_wp2_with (go_at_call 10; refine (c10'.out _ rfl).mono ?_; rintro e u5 ⟨rfl, hb5⟩)
 exact hK.out _ _ rfl rfl (ext3 (ext3 M1 M2) hb5)
theorem d5c (hp : tm[2]?.getD undef = .pointer (some ⟨B, 0, none⟩)) (hx : W.heap[B]? = some (.cells #[a, b, c, d, e, f, g, h, i] 32)) : (results Tryz.f33 tm).run Tryz.prog W = .ok (.agg #[a, b, c, d, e, f, g, h, i]) W := by
 obtain ⟨d0, d1, d2, d3, d4, d5, d6, d7, d8⟩ := nine hx
 simp [results, Tryz.results33, go_sem, hp, d0, d1, d2, d3, d4, d5, d6, d7, d8]
theorem b6j {c : Nat} (hc : c ≠ B) (a b c' d e f g h i : Value) : (set9 W B a b c' d e f g h i).heap[c]? = W.heap[c]? := by
 unfold set9
 simp only [a0f _ _ hc]
theorem c6r (fv tv ov : Value) (s : St) (W : World) (hI : StIn W.heap.size W fv tv ov s) (n0 : Nat) (hn0 : n0 ≤ W.heap.size) (hT0 : b0a n0 W tv s.tb) (h1 : 1 ≤ s.fr.length) (h40 : s.fr.length ≤ 40) (hrs : ∀ x ∈ s.fr, 1 ≤ x.rs.length ∧ x.rs.length ≤ 1000) (ht : s.tb.length ≤ 200) (ho : s.out.length ≤ 60000) :
  Calls Tryz.prog 33 #[stv fv tv ov s] W fun e W' => ∃ F fc T tc U uc fw tw, e = .returned (stv (.slice (some ⟨F, 0, none⟩) s.fr.length fc) (.slice (some ⟨T, 0, none⟩) s.tb.length tc) (.slice (some ⟨U, 0, none⟩) s.out.length uc) s) ∧ FD n0 W.heap.size W' F fc T tc U uc fw tw s ∧ Below W.heap.size W W' := by
 obtain ⟨w1, hw1⟩ := exq ((W.alloc (stb fv tv ov s)).alloc zst)
 have E0 : Below W.heap.size W w1 := by rw [← hw1]; exact a0c (a0c (Below.refl W.heap.size W) _) _
 have g0 : w1.heap[W.heap.size]? = some (stb fv tv ov s) := by rw [← hw1]; exact a0g _ (a0h _ _)
 have g1 : w1.heap[W.heap.size + 1]? = some zst := by rw [← hw1]; exact a6w W _ _
 have hs1 : w1.heap.size = W.heap.size + 1 + 1 := by rw [← hw1]; simp
 obtain ⟨wz, hwz⟩ := exq (w1.alloc zst)
 have gz : wz.heap[w1.heap.size]? = some zst := by rw [← hwz]; exact a0h _ _
 have Ez : Below w1.heap.size w1 wz := by rw [← hwz]; exact a0c (Below.refl _ _) _
 obtain ⟨w2, hw2⟩ := exq (set9 wz w1.heap.size fv tv ov (.int .i64 s.st) (.int .i64 s.en) (.int .i64 s.er) (.int .i64 s.la.k) (.int .i64 s.la.n) (.string s.la.s))
 have g2 : w2.heap[w1.heap.size]? = some (stb fv tv ov s) := by rw [← hw2]; exact a1y gz
 have E2 : Below w1.heap.size w1 w2 := by rw [← hw2]; exact a1z Ez (Nat.le_refl _) _ _ _ _ _ _ _ _ _
 obtain ⟨w3, hw3⟩ := exq (w2.setCell ⟨w1.heap.size, 0, none⟩ (.slice none 0 0))
 have g3 : w3.heap[w1.heap.size]? = some (stb (.slice none 0 0) tv ov s) := by
  rw [← hw3]
  have := a0k (i := 0) (.slice none 0 0) g2
  exact this.trans (by simp [stb])
 have E3 : Below w1.heap.size w1 w3 := by rw [← hw3]; exact E2.setCell (p := ⟨w1.heap.size, 0, none⟩) (Nat.le_refl _) _
 obtain ⟨fa, fp, hfv, _, hfx⟩ := hI.f
 obtain ⟨ta, tp, htv, _, htx⟩ := hT0
 obtain ⟨oa, op, hov, _, hox⟩ := hI.o
 subst hfv
 subst htv
 subst hov
 obtain ⟨n, hn⟩ := exq (s.fr.length)
 obtain ⟨nt, hnt⟩ := exq (s.tb.length)
 obtain ⟨no, hno⟩ := exq (s.out.length)
 rw [hn] at h1 h40 hw1 g0 hw2 g2 ⊢
 rw [hnt] at ht hw1 g0 hw2 g2 g3 ⊢
 rw [hno] at ho hw1 g0 hw2 g2 g3 ⊢
 have hI0 : CpI w3 w1.heap.size (.slice ta nt tp) (.slice oa no op) s 0 [] (.slice none 0 0) w3 := ⟨g3, ⟨by simp [a0p], .inl ⟨rfl, rfl⟩⟩, by simp, (fun q hq => by cases hq), (fun q hq => by cases hq), by simp, a1n.refl _ _⟩
 obtain ⟨b0, b1, b2, b3, b4, b5, b6, b7, b8⟩ := nine g0
 obtain ⟨z0, z1, z2, z3, z4, z5, z6, z7, z8⟩ := nine gz
 obtain ⟨y0, y1, y2, y3, y4, y5, y6, y7, y8⟩ := frz gz
 obtain ⟨c0, c1, c2, c3, c4, c5, c6, c7, c8⟩ := nine g2
 have k0 := a0e (i := 0) g2
 have BW1 := a0b E0 E3
 have lt3 : w1.heap.size < w3.heap.size := a0n g3
 replace hn : Hid _ := hn
 replace hnt : Hid _ := hnt
 replace hno : Hid _ := hno
 replace hfx : Hid _ := hfx
 replace htx : Hid _ := htx
 replace hox : Hid _ := hox
 replace hI0 : Hid _ := hI0
 replace hrs : Hid _ := hrs
 replace hs1 : Hid _ := hs1
 unfold set9 at hw2
 go_enter Tryz.func33, Tryz.ntmps33
 go_wp2
 clear b0 b1 b2 b3 b4 b5 b6 b7 b8 z0 z1 z2 z3 z4 z5 z6 z7 z8 y0 y1 y2 y3 y4 y5 y6 y7 y8 c0 c1 c2 c3 c4 c5 c6 c7 c8 k0 hw1 hwz hw2 hw3
 go_loopw [4] (fun i wr => ∃ (m : Nat) (fw : List Fw) (fv : Value), m ≤ n ∧ i = .int .i64 (m : Nat) ∧ Hid (CpI w3 w1.heap.size (.slice ta nt tp) (.slice oa no op) s m fw fv wr)) (fun i _ => n - (intOf i).toNat)
 case atStart => exact ⟨0, [], .slice none 0 0, Nat.zero_le _, rfl, hI0⟩
 case round =>
  clear hI0
  obtain ⟨m, fw, fv, hm, rfl, hrel⟩ := hrel
  have hk3 := hrel.out.b
  have hs1' : W.heap.size + 1 < w1.heap.size := by rw [hs1.out]; omega
  have gw0 : wr.heap[W.heap.size]? = some (stb (.slice fa n fp) (.slice ta nt tp) (.slice oa no op) s) := (hk3.block _ (by omega) (by omega)).trans (a0j E3 g0)
  have a0 := a0a (i := 0) gw0 rfl
  have hbW : Below W.heap.size W wr := ⟨hk3.os.trans BW1.os, hk3.tape.trans BW1.tape, hk3.output.trans BW1.output, Nat.le_trans BW1.size hk3.size, fun k hk => (hk3.block k (by have := BW1.size; omega) (by have := E0.size; omega)).trans (BW1.block k hk)⟩
  have gt := hrel.out.t
  have lwr := hbW.size
  have lw3 := hk3.size
  by_cases hlt : m < n
  ·obtain ⟨x, hxm⟩ : ∃ x, s.fr[m]? = some x := ⟨s.fr[m]'(by rw [hn.out]; exact hlt), List.getElem?_eq_getElem _⟩
   obtain ⟨b, off, rfl, hb, hc⟩ := hfx.out (fun e => by rw [e] at hxm; simp at hxm)
   obtain ⟨c0, c1, c2, rv, c3, hrow⟩ := (hc m x hxm).below hbW hb
   obtain ⟨hr1, hr2⟩ := hrs.out x (List.mem_of_getElem? hxm)
   obtain ⟨ra, rc, rfl, _, hrx⟩ := hrow
   obtain ⟨rb, roff, rfl, hrb, hrc⟩ := hrx (fun e => by rw [e] at hr1; simp at hr1)
   clear hrx
   obtain ⟨rl, hrl⟩ := exq (x.rs.length)
   rw [hrl] at c3 hr1 hr2
   have lb : b < wr.heap.size := by omega
   obtain ⟨v1, hv1⟩ := exq (wr.alloc (.cells #[.int .i64 0, .int .i64 0, .int .i64 0, .slice none 0 0] 50))
   have gv1 : v1.heap[wr.heap.size]? = some (.cells #[.int .i64 0, .int .i64 0, .int .i64 0, .slice none 0 0] 50) := by rw [← hv1]; exact a0h _ _
   have Ev1 : Below wr.heap.size wr v1 := by rw [← hv1]; exact a0c (Below.refl _ _) _
   obtain ⟨w4, hw4⟩ := exq ((((v1.setCell ⟨wr.heap.size, 0, none⟩ (.int .i64 x.f)).setCell ⟨wr.heap.size, 1, none⟩ (.int .i64 x.pc)).setCell ⟨wr.heap.size, 2, none⟩ (.int .i64 x.d)).setCell ⟨wr.heap.size, 3, none⟩ (.slice (some ⟨rb, roff, none⟩) rl rc))
   have g4 : w4.heap[wr.heap.size]? = some (.cells #[.int .i64 x.f, .int .i64 x.pc, .int .i64 x.d, .slice (some ⟨rb, roff, none⟩) rl rc] 50) := by
    rw [← hw4]
    have := a0k (i := 3) (.slice (some ⟨rb, roff, none⟩) rl rc) (a0k (i := 2) (.int .i64 x.d) (a0k (i := 1) (.int .i64 x.pc) (a0k (i := 0) (.int .i64 x.f) gv1)))
    exact this.trans (by simp)
   have E4 : Below wr.heap.size wr w4 := by
    rw [← hw4]
    exact (((Ev1.setCell (p := ⟨wr.heap.size, 0, none⟩) (Nat.le_refl _) _).setCell (p := ⟨wr.heap.size, 1, none⟩) (Nat.le_refl _) _).setCell (p := ⟨wr.heap.size, 2, none⟩) (Nat.le_refl _) _).setCell (p := ⟨wr.heap.size, 3, none⟩) (Nat.le_refl _) _
   obtain ⟨w5, hw5⟩ := exq (w4.alloc (.cells #[] 30))
   have gE : w5.heap[w4.heap.size]? = some (.cells #[] 30) := by rw [← hw5]; exact a0h _ _
   have E5 : Below w4.heap.size w4 w5 := by rw [← hw5]; exact a0c (Below.refl _ _) _
   obtain ⟨q0, q1, q2, q3⟩ := four gv1
   have f0 := a0e (i := 0) gv1
   have f1 := a0e (i := 1) gv1
   have f2 := a0e (i := 2) gv1
   have f3 := a0e (i := 3) gv1
   have g5 := a0j E5 g4
   have p3 := a0a (i := 3) g5 rfl
   obtain ⟨i0, hi0, hz0, hz1, hz2⟩ := a1h b0p
   have hfl : (flat x.rs).length = rl * 3 := by rw [a1j, hrl]
   have lrb : rb < wr.heap.size := by omega
   have hnews : flat x.rs ≠ [] → ∃ b off, some (⟨rb, roff, none⟩ : Addr) = some ⟨b, off, none⟩ ∧ ∀ j u, (flat x.rs)[j]? = some u → w5.cell? ⟨b, off + j, none⟩ = some u := fun _ => ⟨rb, roff, rfl, b6g x.rs roff (fun j y hy => (hrc j y hy).below (a0b E4 E5) lrb)⟩
   have h63 : rl ≤ maxLen := by unfold maxLen; omega
   have hby : rl * 32 ≤ 140737488355328 := by omega
   have l4 : wr.heap.size < w4.heap.size := a0n g4
   have l5 : w4.heap.size < w5.heap.size := a0n gE
   have hnE : some wr.heap.size ≠ some w4.heap.size := fun e => by have := Option.some.inj e; omega
   replace hrl : Hid _ := hrl
   replace hfl : Hid _ := hfl
   replace hrel : Hid _ := hrel.out
   clear hc
   go_wp2_with (at_builtin; refine a3q _ (by rfl) _ _ _ (by rfl) 30 i0 _ 3 32 Tryz.underlying48 hi0 hz0 hz1 hz2 rfl (by omega) w4.heap.size gE (by rfl) (some ⟨rb, roff, none⟩) rl rc (flat x.rs) (by rfl) hfl.out hnews c6j h63 hby ?_; intro g1 cap1 w6 hown1 hgrow1 hat1; have g6 := (hgrow1.block _ (by omega) hnE).trans g5; have r3 := a0a (i := 3) g6 rfl; have rf := a0e (i := 3) g6; refine Hid.out ?_)
   refine Lib.hid ?_
   obtain ⟨w7, hw7⟩ := exq (w6.setCell ⟨wr.heap.size, 3, none⟩ (.slice (some ⟨g1, 0, none⟩) rl cap1))
   have g7 : w7.heap[wr.heap.size]? = some (.cells #[.int .i64 x.f, .int .i64 x.pc, .int .i64 x.d, .slice (some ⟨g1, 0, none⟩) rl cap1] 50) := by
    rw [← hw7]
    have := a0k (i := 3) (.slice (some ⟨g1, 0, none⟩) rl cap1) g6
    exact this.trans (by simp)
   obtain ⟨w8, hw8⟩ := exq (w7.alloc (.cells #[.int .i64 x.f, .int .i64 x.pc, .int .i64 x.d, .slice (some ⟨g1, 0, none⟩) rl cap1] 50))
   have g8 : w8.heap[w7.heap.size]? = some (.cells #[.int .i64 x.f, .int .i64 x.pc, .int .i64 x.d, .slice (some ⟨g1, 0, none⟩) rl cap1] 50) := by rw [← hw8]; exact a0h _ _
   have E8 : Below w7.heap.size w7 w8 := by rw [← hw8]; exact a0c (Below.refl _ _) _
   have z6 := hgrow1.size
   have z7a : w7.heap.size ≤ w6.heap.size := by rw [← hw7]; simp
   have z7b : w6.heap.size ≤ w7.heap.size := by rw [← hw7]; simp
   have z8 := E8.size
   have hkeep : ∀ c, c < wr.heap.size → w8.heap[c]? = wr.heap[c]? := fun c hcl => by
    refine (E8.block c (by omega)).trans ?_
    rw [← hw7]
    exact (a0f _ _ (by omega)).trans ((hgrow1.block c (by omega) (fun e => by have := Option.some.inj e; omega)).trans ((E5.block c (by omega)).trans (E4.block c hcl)))
   have hBt8 : w8.heap[w1.heap.size]? = some (stb fv (.slice ta nt tp) (.slice oa no op) s) := (hkeep _ (by omega)).trans gt
   have hBt7 : w7.heap[w1.heap.size]? = some (stb fv (.slice ta nt tp) (.slice oa no op) s) := (E8.block _ (by omega)).symm.trans hBt8
   have hown8 : w8.ownsRow w3.heap.size 50 4 fv m (a0p fw) := b0e hrel.out.o (fun g e => hkeep g (a6f hrel.out.o e).2)
   have hnews8 : ∀ j y, [Value.int .i64 x.f, Value.int .i64 x.pc, Value.int .i64 x.d, Value.slice (some ⟨g1, 0, none⟩) rl cap1][j]? = some y → w8.cell? ((⟨w7.heap.size, 0, none⟩ : Addr).add j) = some y := fun j y hy => by
    match j, hy with
    | 0, hy => cases hy; exact a0a (i := 0) g8 rfl
    | 1, hy => cases hy; exact a0a (i := 1) g8 rfl
    | 2, hy => cases hy; exact a0a (i := 2) g8 rfl
    | 3, hy => cases hy; exact a0a (i := 3) g8 rfl
    | j + 4, hy => simp at hy
   have hone : ∀ y ∈ [Value.int .i64 x.f, Value.int .i64 x.pc, Value.int .i64 x.d, Value.slice (some ⟨g1, 0, none⟩) rl cap1], y.oneCell' = true := fun y hy => by simp at hy; rcases hy with rfl | rfl | rfl | rfl <;> rfl
   obtain ⟨j0, hj0, hy0, hy1, hy2⟩ := a1h b0v
   have h638 : m + 1 ≤ maxLen := by unfold maxLen; omega
   have hby8 : (m + 1) * 48 ≤ 140737488355328 := by omega
   have hsz8 : w3.heap.size ≤ w8.heap.size := by omega
   obtain ⟨e0, e1, e2, e3⟩ := four g7
   have d0 := a0a (i := 0) hBt7 rfl
   have hnB : some w1.heap.size ≠ fv.ownBlock := fun e => by have := (a6f hrel.out.o e.symm).1; omega
   replace hBt8 : Hid _ := hBt8
   replace hkeep : Hid _ := hkeep
   go_wp2_with (at_builtin; refine wpList_append_lies _ (by rfl) _ _ _ (by rfl) w3.heap.size 50 j0 _ 4 48 Tryz.underlying25 hj0 hy0 hy1 hy2 rfl (by omega) fv m _ (by rfl) hown8 ⟨w7.heap.size, 0, none⟩ 1 1 [Value.int .i64 x.f, Value.int .i64 x.pc, Value.int .i64 x.d, Value.slice (some ⟨g1, 0, none⟩) rl cap1] (by rfl) (by rfl) hnews8 hone (by omega) h638 hby8 hsz8 _ rfl ?_; intro g3' cap3 w9 hown9 hgrow9 hat9 hlt9; have g9 := (hgrow9.block _ (by omega) hnB).trans hBt8.out; have s0 := a0a (i := 0) g9 rfl; have sf := a0e (i := 0) g9)
   go_roundw
   case measure => simp [intOf]; omega
   case rel =>
    refine ⟨m + 1, fw ++ [⟨x, g1, cap1⟩], .slice (some ⟨g3', 0, none⟩) (m + 1) cap3, by omega, by go_num, ?_⟩
    have hrl' := hrl.out
    subst hrl'
    exact hrel.out.snoc lt3 hxm E4 rfl l4 E5 rfl l5 hgrow1 hown1 hat1 hw7 E8 hgrow9 hown9 hat9
  ·obtain rfl : m = n := by omega
   obtain ⟨hgt, hgo, hgx, hgr, hgl, hgn, _⟩ := hrel.out
   obtain ⟨F, fc, hF1, hF2⟩ : ∃ F fc, fv = .slice (some ⟨F, 0, none⟩) m fc ∧ OwnR wr F 50 4 m fc (a0p fw) := by
    obtain ⟨o1, ⟨_, o2⟩ | ⟨F, fc, cur, o2, o3, o4, o5, o6, o7, o8⟩⟩ := hgo
    ·omega
    ·exact ⟨F, fc, o2, o1, cur, o4, o5, o6, o7, o8⟩
   subst hF1
   have lF : w3.heap.size ≤ F := (a6f hgo rfl).1
   have lF' := hF2.lt
   rw [List.take_of_length_le (Nat.le_of_eq hn.out)] at hgx
   -- the tables
   obtain ⟨tw, ht1, ht2, ht3⟩ : ∃ tw : List Tw, tw.map Tw.t = s.tb ∧ (a0m tw ≠ [] → ∃ b off, ta = some ⟨b, off, none⟩ ∧ b < W.heap.size ∧ ∀ j v, (a0m tw)[j]? = some v → W.cell? ⟨b, off + j, none⟩ = some v) ∧ ∀ q ∈ tw, Row n0 W q.a q.t.ks ∧ Row n0 W q.b q.t.vs := by
    by_cases hne : s.tb = []
    ·exact ⟨[], by rw [hne]; rfl, fun h => absurd rfl h, fun q hq => by cases hq⟩
    ·obtain ⟨b, off, e1, e2, e3⟩ := htx.out hne
     obtain ⟨tw, f1, f2, f3⟩ := c7j s.tb off e3
     exact ⟨tw, f1, fun _ => ⟨b, off, e1, by omega, f2⟩, f3⟩
   have htl : (a0m tw).length = nt * 2 := by rw [a3o, ← hnt.out, ← ht1, List.length_map]
   have ht1' : ∀ u ∈ a0m tw, u.oneCell' = true := fun u hu => by
    obtain ⟨q, hq, hu⟩ := List.mem_flatMap.1 hu
    obtain ⟨⟨a1, x1, e1, _⟩, ⟨a2, x2, e2, _⟩⟩ := ht3 q hq
    simp at hu
    rcases hu with rfl | rfl
    ·rw [e1]; rfl
    ·rw [e2]; rfl
   obtain ⟨w4, hw4⟩ := exq (wr.alloc (.cells #[] 57))
   have g4 : w4.heap[wr.heap.size]? = some (.cells #[] 57) := by rw [← hw4]; exact a0h _ _
   have E4 : Below wr.heap.size wr w4 := by rw [← hw4]; exact a0c (Below.refl _ _) _
   obtain ⟨i0, hi0, hz0, hz1, hz2⟩ := a1h a9x
   have hnews : a0m tw ≠ [] → ∃ b off, ta = some ⟨b, off, none⟩ ∧ ∀ j u, (a0m tw)[j]? = some u → w4.cell? ⟨b, off + j, none⟩ = some u := fun h => by
    obtain ⟨b, off, e1, e2, e3⟩ := ht2 h
    exact ⟨b, off, e1, fun j u hu => (E4.cell (p := ⟨b, off + j, none⟩) (by show b < _; omega)).trans ((hbW.cell (p := ⟨b, off + j, none⟩) e2).trans (e3 j u hu))⟩
   have h63 : nt ≤ maxLen := by unfold maxLen; omega
   have hby : nt * 48 ≤ 140737488355328 := by omega
   have gw4 := a0j E4 gw0
   have a1 := a0a (i := 1) gw4 rfl
   have gt4 := a0j E4 hgt
   have hnE : some w1.heap.size ≠ some wr.heap.size := fun e => by have := Option.some.inj e; omega
   have l4 : wr.heap.size < w4.heap.size := a0n g4
   replace hgx : Hid _ := hgx
   replace hgr : Hid _ := hgr
   replace hgl : Hid _ := hgl
   replace hgn : Hid _ := hgn
   replace ht2 : Hid _ := ht2
   replace ht3 : Hid _ := ht3
   replace hrel : Hid _ := hrel.out
   go_wp2_with (at_builtin; refine a3q _ (by rfl) _ _ _ (by rfl) 57 i0 _ 2 48 Tryz.underlying26 hi0 hz0 hz1 hz2 rfl (by omega) wr.heap.size g4 (by rfl) ta nt tp (a0m tw) (by rfl) htl hnews ht1' h63 hby ?_; intro T tc w5 hT hgrow5 hat5; have g5 := (hgrow5.block _ (by omega) hnE).trans gt4; have r1 := a0a (i := 1) g5 rfl; have rf := a0e (i := 1) g5; refine Hid.out ?_)
   refine Lib.hid ?_
   have z5 := hgrow5.size
   have lT := hT.lt
   obtain ⟨w6, hw6⟩ := exq (w5.setCell ⟨w1.heap.size, 1, none⟩ (.slice (some ⟨T, 0, none⟩) nt tc))
   have z6a : w6.heap.size ≤ w5.heap.size := by rw [← hw6]; simp
   have z6b : w5.heap.size ≤ w6.heap.size := by rw [← hw6]; simp
   have g6 : w6.heap[w1.heap.size]? = some (stb (.slice (some ⟨F, 0, none⟩) m fc) (.slice (some ⟨T, 0, none⟩) nt tc) (.slice oa no op) s) := by
    rw [← hw6]
    have := a0k (i := 1) (.slice (some ⟨T, 0, none⟩) nt tc) g5
    exact this.trans (by simp [stb])
   have o6 : ∀ c, c ≠ w1.heap.size → w6.heap[c]? = w5.heap[c]? := fun c h => by rw [← hw6]; exact a0f _ _ h
   have k6 : ∀ c, c < wr.heap.size → c ≠ w1.heap.size → w6.heap[c]? = wr.heap[c]? := fun c h h' => (o6 c h').trans ((hgrow5.block c (by omega) (fun e => by have := Option.some.inj e; omega)).trans (E4.block c h))
   obtain ⟨w7, hw7⟩ := exq (w6.alloc (.cells #[] 9))
   have g7 : w7.heap[w6.heap.size]? = some (.cells #[] 9) := by rw [← hw7]; exact a0h _ _
   have E7 : Below w6.heap.size w6 w7 := by rw [← hw7]; exact a0c (Below.refl _ _) _
   have l7 : w6.heap.size < w7.heap.size := a0n g7
   obtain ⟨j0, hj0, hy0, hy1, hy2⟩ := a1h c0x
   have hol : (s.out.map Value.string).length = no * 1 := by rw [List.length_map, hno.out, Nat.mul_one]
   have ho1 : ∀ u ∈ s.out.map Value.string, u.oneCell' = true := fun u hu => by obtain ⟨t, _, rfl⟩ := List.mem_map.1 hu; rfl
   have hkW : ∀ c, c < W.heap.size → w7.heap[c]? = W.heap[c]? := fun c h => (E7.block c (by omega)).trans ((k6 c (by omega) (by omega)).trans (hbW.block c h))
   have hnews2 : s.out.map Value.string ≠ [] → ∃ b off, oa = some ⟨b, off, none⟩ ∧ ∀ j u, (s.out.map Value.string)[j]? = some u → w7.cell? ⟨b, off + j, none⟩ = some u := fun h => by
    obtain ⟨b, off, e1, e2, e3⟩ := hox.out (fun e => h (by rw [e]; rfl))
    exact ⟨b, off, e1, fun j u hu => (World.cell?_of_block (a := ⟨b, off + j, none⟩) (hkW b e2)).trans (d0o e3 j u hu)⟩
   have h632 : no ≤ maxLen := by unfold maxLen; omega
   have hby2 : no * 16 ≤ 140737488355328 := by omega
   have gw7 : w7.heap[W.heap.size]? = some (stb (.slice fa m fp) (.slice ta nt tp) (.slice oa no op) s) := (E7.block _ (by omega)).trans ((k6 _ (by omega) (by omega)).trans gw0)
   have a2 := a0a (i := 2) gw7 rfl
   have gt7 := a0j E7 g6
   have hnE2 : some w1.heap.size ≠ some w6.heap.size := fun e => by have := Option.some.inj e; omega
   replace o6 : Hid _ := o6
   replace k6 : Hid _ := k6
   replace hkW : Hid _ := hkW
   go_wp2_with (at_builtin; refine a3q _ (by rfl) _ _ _ (by rfl) 9 j0 _ 1 16 Tryz.underlying27 hj0 hy0 hy1 hy2 rfl (by omega) w6.heap.size g7 (by rfl) oa no op (s.out.map Value.string) (by rfl) hol hnews2 ho1 h632 hby2 ?_; intro U uc w8 hU hgrow8 hat8; have g8 := (hgrow8.block _ (by omega) hnE2).trans gt7; have r2 := a0a (i := 2) g8 rfl; have rf2 := a0e (i := 2) g8; refine Hid.out ?_)
   refine Lib.hid ?_
   have z8 := hgrow8.size
   have lU := hU.lt
   obtain ⟨w9, hw9⟩ := exq (w8.setCell ⟨w1.heap.size, 2, none⟩ (.slice (some ⟨U, 0, none⟩) no uc))
   have z9a : w9.heap.size ≤ w8.heap.size := by rw [← hw9]; simp
   have z9b : w8.heap.size ≤ w9.heap.size := by rw [← hw9]; simp
   have g9 : w9.heap[w1.heap.size]? = some (stb (.slice (some ⟨F, 0, none⟩) m fc) (.slice (some ⟨T, 0, none⟩) nt tc) (.slice (some ⟨U, 0, none⟩) no uc) s) := by
    rw [← hw9]
    have := a0k (i := 2) (.slice (some ⟨U, 0, none⟩) no uc) g8
    exact this.trans (by simp [stb])
   have k9 : ∀ c, c < w6.heap.size → c ≠ w1.heap.size → w9.heap[c]? = w6.heap[c]? := fun c h h' => by
    rw [← hw9]
    exact (a0f _ _ h').trans ((hgrow8.block c (by omega) (fun e => by have := Option.some.inj e; omega)).trans (E7.block c h))
   have gz9 : w9.heap[W.heap.size + 1]? = some zst := (k9 _ (by omega) (by omega)).trans ((k6.out _ (by omega) (by omega)).trans ((hk3.block _ (by omega) (by omega)).trans (a0j E3 g1)))
   obtain ⟨p0, p1, p2, p3, p4, p5, p6, p7, p8⟩ := nine g9
   obtain ⟨x0, x1, x2, x3, x4, x5, x6, x7, x8⟩ := nine gz9
   obtain ⟨y0, y1, y2, y3, y4, y5, y6, y7, y8⟩ := frz gz9
   obtain ⟨Y, hY⟩ := exq (set9 w9 (W.heap.size + 1) (.slice (some ⟨F, 0, none⟩) m fc) (.slice (some ⟨T, 0, none⟩) nt tc) (.slice (some ⟨U, 0, none⟩) no uc) (.int .i64 s.st) (.int .i64 s.en) (.int .i64 s.er) (.int .i64 s.la.k) (.int .i64 s.la.n) (.string s.la.s))
   have P1 : Y.heap[W.heap.size + 1]? = some (stb (.slice (some ⟨F, 0, none⟩) m fc) (.slice (some ⟨T, 0, none⟩) nt tc) (.slice (some ⟨U, 0, none⟩) no uc) s) := by rw [← hY]; exact a1y gz9
   have kY : ∀ c, c ≠ W.heap.size + 1 → Y.heap[c]? = w9.heap[c]? := fun c h => by rw [← hY]; exact b6j h _ _ _ _ _ _ _ _ _
   have b9 : Below W.heap.size W w9 := ⟨by rw [← hw9]; exact hgrow8.os.trans (E7.os.trans (by rw [← hw6]; exact hgrow5.os.trans (E4.os.trans hbW.os))), by rw [← hw9]; exact hgrow8.tape.trans (E7.tape.trans (by rw [← hw6]; exact hgrow5.tape.trans (E4.tape.trans hbW.tape))), by rw [← hw9]; exact hgrow8.output.trans (E7.output.trans (by rw [← hw6]; exact hgrow5.output.trans (E4.output.trans hbW.output))), by omega, fun c h => (k9 c (by omega) (by omega)).trans ((k6.out c (by omega) (by omega)).trans (hbW.block c h))⟩
   have EY : Below W.heap.size W Y := by rw [← hY]; exact a1z b9 (by omega) _ _ _ _ _ _ _ _ _
   have zY : Y.heap.size = w9.heap.size := by rw [← hY]; simp [set9]
   replace k9 : Hid _ := k9
   replace kY : Hid _ := kY
   unfold set9 at hY
   go_wp2
   refine bodyPost_ret (d5c (B := W.heap.size + 1) rfl P1) rfl ⟨F, fc, T, tc, U, uc, fw, tw, rfl, ?_, EY⟩
   replace k9 := k9.out
   replace kY := kY.out
   replace k6 := k6.out
   replace o6 := o6.out
   have hTw : wr.heap.size ≤ T := by rcases hat5 with e | e <;> omega
   have hUw : w6.heap.size ≤ U := by rcases hat8 with e | e <;> omega
   have low : ∀ c, c < wr.heap.size → w3.heap.size ≤ c → Y.heap[c]? = wr.heap[c]? := fun c h h' => (kY c (by omega)).trans ((k9 c (by omega) (by omega)).trans (k6 c h (by omega)))
   have hn' := hn.out
   have hnt' := hnt.out
   have hno' := hno.out
   have hlo : ∀ k ∈ F :: T :: U :: fw.map Fw.g, w3.heap.size ≤ k := fun k hk => by
    rcases List.mem_cons.1 hk with rfl | hk
    ·exact lF
    rcases List.mem_cons.1 hk with rfl | hk
    ·omega
    rcases List.mem_cons.1 hk with rfl | hk
    ·omega
    obtain ⟨q, hq, rfl⟩ := List.mem_map.1 hk
    exact (hgl.out q hq).1
   have hrw : ∀ {sv : Value} {xs : List Vl}, Row W.heap.size W sv xs → Rw Y (F :: T :: U :: fw.map Fw.g) sv xs := fun {sv xs} hr => by
    obtain ⟨a, cap, e, hl, hx⟩ := hr
    refine ⟨a, cap, e, hl, fun hne => ?_⟩
    obtain ⟨b, off, ea, hb, hc⟩ := hx hne
    exact ⟨b, off, ea, fun hk => by have := hlo b hk; omega, by have := EY.size; omega, fun j x hj => (hc j x hj).below EY hb⟩
   refine ⟨by rw [hn']; exact hF2.same (low F lF' lF), ?_, ?_, hgx.out, ht1, fun q hq => (hgr.out q hq).same (low _ (hgr.out q hq).lt (hgl.out q hq).1), ?_, fun k hk => by have := hlo k hk; omega, fun q hq => ⟨hrw (a1k hn0 (ht3.out q hq).1), hrw (a1k hn0 (ht3.out q hq).2)⟩, fun q hq => ⟨(ht3.out q hq).1.below (EY.mono hn0), (ht3.out q hq).2.below (EY.mono hn0)⟩⟩
   ·rw [hnt']
    exact hT.same ((kY T (by omega)).trans ((k9 T (by omega) (by omega)).trans (o6 T (by omega))))
   ·rw [hno']
    refine hU.same ((kY U (by omega)).trans ?_)
    rw [← hw9]
    exact a0f _ _ (by omega)
   ·have hgw : ∀ k ∈ fw.map Fw.g, k < wr.heap.size := fun k hk => by
     obtain ⟨q, hq, rfl⟩ := List.mem_map.1 hk
     exact (hgr.out q hq).lt
    refine List.nodup_cons.2 ⟨fun hk => ?_, List.nodup_cons.2 ⟨fun hk => ?_, List.nodup_cons.2 ⟨fun hk => ?_, hgn.out⟩⟩⟩
    ·rcases List.mem_cons.1 hk with e | hk
     ·omega
     rcases List.mem_cons.1 hk with e | hk
     ·omega
     obtain ⟨q, hq, e⟩ := List.mem_map.1 hk
     exact (hgl.out q hq).2 (by rw [e]; rfl)
    ·rcases List.mem_cons.1 hk with e | hk
     ·omega
     have := hgw T hk
     omega
    ·have := hgw U hk
     omega
theorem FS.stin {lo : Nat} {F T U uc : Nat} {fw : List Fw} {tw : List Tw} (h : FS lo W F fc T tc U uc fw tw s) : StIn W.heap.size W (.slice (some ⟨F, 0, none⟩) s.fr.length fc) (.slice (some ⟨T, 0, none⟩) s.tb.length tc) (.slice (some ⟨U, 0, none⟩) s.out.length uc) s := by
 refine ⟨⟨_, _, rfl, h.fo.max, fun _ => ⟨F, 0, rfl, h.fo.lt, fun j x hx => ?_⟩⟩, ⟨_, _, rfl, h.to.max, fun _ => ⟨T, 0, rfl, h.to.lt, fun j x hx => ?_⟩⟩, ⟨_, _, rfl, h.uo.max, fun _ => ⟨U, 0, rfl, h.uo.lt, fun j x hx => ?_⟩⟩⟩
 ·rw [← h.hf, List.getElem?_map] at hx
  obtain ⟨q, hq, rfl⟩ := Option.map_eq_some_iff.1 hx
  obtain ⟨e0, e1, e2, e3⟩ := a8n hq
  rw [Nat.zero_add]
  exact ⟨(h.fo.cell e0).1, (h.fo.cell e1).1, (h.fo.cell e2).1, _, (h.fo.cell e3).1, (h.rg q (List.mem_of_getElem? hq)).row⟩
 ·rw [← h.ht, List.getElem?_map] at hx
  obtain ⟨q, hq, rfl⟩ := Option.map_eq_some_iff.1 hx
  obtain ⟨e0, e1⟩ := a8o hq
  rw [Nat.zero_add]
  have ht := h.tr [] (by simp) q (List.mem_of_getElem? hq)
  exact ⟨_, _, (h.to.cell e0).1, (h.to.cell e1).1, ht.1.row, ht.2.row⟩
 ·rw [Nat.zero_add]
  exact (h.uo.cell (by rw [List.getElem?_map, hx]; rfl)).1
theorem a4j (hk : k ≠ B) : (set9 W B a b c d e f g h i).heap[k]? = W.heap[k]? := by
 unfold set9
 rw [a0f _ _ hk, a0f _ _ hk, a0f _ _ hk, a0f _ _ hk, a0f _ _ hk, a0f _ _ hk, a0f _ _ hk, a0f _ _ hk, a0f _ _ hk]
theorem d2z (hp : tm[2]?.getD undef = .pointer (some ⟨B, 0, none⟩)) (hx : W.heap[B]? = some (.cells #[a, b, c, d, e, f, g, h, i] 32)) : (results Tryz.f11 tm).run Tryz.prog W = .ok (.agg #[a, b, c, d, e, f, g, h, i]) W := by
 obtain ⟨d0, d1, d2, d3, d4, d5, d6, d7, d8⟩ := nine hx
 simp [results, Tryz.results11, go_sem, hp, d0, d1, d2, d3, d4, d5, d6, d7, d8]
def begS (n r : Nat) : St := { fr := [⟨n, 0, 0, List.replicate r nilV⟩], tb := [], out := [], st := 0, en := 0, er := 0, la := nilV }
theorem b3j (b off nf cf n r : Nat) (W : World) (hn : n < nf) (d1 : W.cell? ⟨b, off + n * 4 + 1, none⟩ = some (.int .i64 (r : Nat))) (hr : r ≤ 250) :
  Calls Tryz.prog 11 #[PV (some ⟨b, off, none⟩) nf cf n] W fun e W' => ∃ F g, e = .returned (stv (.slice (some ⟨F, 0, none⟩) 1 1) (.slice none 0 0) (.slice none 0 0) (begS n r)) ∧ OwnR W' g 30 3 r r (flat (List.replicate r nilV)) ∧ W'.heap[F]? = some (.cells #[.int .i64 (n : Nat), .int .i64 0, .int .i64 0, .slice (some ⟨g, 0, none⟩) r r] 50) ∧ W.heap.size ≤ F ∧ W.heap.size ≤ g ∧ F ≠ g ∧ Below W.heap.size W W' := by
 have hb := World.block_lt_of_cell? _ _ d1
 simp only at hb
 obtain ⟨mc, hmk, hms, hml⟩ := a9y r hr
 obtain ⟨w1, hw1⟩ := exq ((W.alloc (.cells #[.slice (some ⟨b, off, none⟩) nf cf, .int .i64 (n : Nat)] 24)).alloc zst)
 have E1 : Below W.heap.size W w1 := by rw [← hw1]; exact a0c (a0c (Below.refl _ _) _) _
 have g1 : w1.heap[W.heap.size]? = some (.cells #[.slice (some ⟨b, off, none⟩) nf cf, .int .i64 (n : Nat)] 24) := by rw [← hw1]; exact a0g _ (a0h _ _)
 have g2 : w1.heap[W.heap.size + 1]? = some zst := by rw [← hw1]; simpa using a0h (W.alloc _) _
 have c0 := a0a (i := 0) g1 rfl
 have c1 := a0a (i := 1) g1 rfl
 have d2 := a0l E1 d1
 have lw := a0n g2
 have lw0 : W.heap.size < w1.heap.size := by omega
 have n1 : ¬ w1.heap.size = W.heap.size := by omega
 have n2 : ¬ w1.heap.size = b := by omega
 have lb : b < w1.heap.size := by omega
 have n3 : ¬ w1.heap.size + 1 = W.heap.size := by omega
 have n4 : ¬ w1.heap.size + 1 = b := by omega
 clear d1
 go_enter Tryz.func11, Tryz.ntmps11
 go_wp2
 go_region
 ·have hCI := CI.b' w1 mc r hms hml hr (.cells #[.int .i64 (n : Nat), .int .i64 0, .int .i64 0, .slice (some ⟨w1.heap.size, 0, none⟩) r r] 50)
  obtain ⟨w3, hw3⟩ := exq (((w1.alloc (.cells mc 30)).alloc (.cells #[.int .i64 (n : Nat), .int .i64 0, .int .i64 0, .slice (some ⟨w1.heap.size, 0, none⟩) r r] 50)).drew)
  rw [hw3] at hCI ⊢
  clear hw3
  obtain ⟨D, hgN⟩ := exq (w1.heap.size + 1)
  rw [hgN] at hCI ⊢
  obtain ⟨gN, hD⟩ := exq (w1.heap.size)
  have hge : w1.heap.size ≤ gN := by omega
  have hDe : w1.heap.size ≤ D := by omega
  have hDg : D ≠ gN := by omega
  rw [hD] at hCI ⊢
  have D0 : w3.heap[D]? = some (.cells #[.int .i64 (n : Nat), .int .i64 0, .int .i64 0, .slice (some ⟨gN, 0, none⟩) r r] 50) := hCI.d
  have R0 : w3.heap[W.heap.size + 1]? = some zst := (hCI.b.block _ lw).trans g2
  obtain ⟨a0, a1, a2, a3⟩ := four D0
  have hs := hCI.b.size
  have lD := a0n D0
  have lg := hCI.o.lt
  obtain ⟨w4, hw4⟩ := exq (w3.alloc (.cells #[.int .i64 (n : Nat), .int .i64 0, .int .i64 0, .slice (some ⟨gN, 0, none⟩) r r] 50))
  have E4 : Below w3.heap.size w3 w4 := by rw [← hw4]; exact a0c (Below.refl _ _) _
  have R1 : w4.heap[W.heap.size + 1]? = some zst := (E4.block _ (a0n R0)).trans R0
  have F1 : w4.heap[w3.heap.size]? = some (.cells #[.int .i64 (n : Nat), .int .i64 0, .int .i64 0, .slice (some ⟨gN, 0, none⟩) r r] 50) := by rw [← hw4]; exact a0h _ _
  have O1 := hCI.o.same (E4.block gN lg)
  have E5 := a0b (a0b E1 hCI.b) E4
  obtain ⟨m0, m1, m2, m3, m4, m5, m6, m7, m8⟩ := nine R1
  obtain ⟨z0, z1, z2, z3, z4, z5, z6, z7, z8⟩ := frz R1
  obtain ⟨Y, hY⟩ := exq (set9 w4 (W.heap.size + 1) (.slice (some ⟨w3.heap.size, 0, none⟩) 1 1) (.slice none 0 0) (.slice none 0 0) (.int .i64 0) (.int .i64 0) (.int .i64 0) (.int .i64 0) (.int .i64 0) (.string ⟨#[]⟩))
  have P1 : Y.heap[W.heap.size + 1]? = some (.cells #[.slice (some ⟨w3.heap.size, 0, none⟩) 1 1, .slice none 0 0, .slice none 0 0, .int .i64 0, .int .i64 0, .int .i64 0, .int .i64 0, .int .i64 0, .string ⟨#[]⟩] 32) := by rw [← hY]; exact a1y R1
  have E6 : Below W.heap.size W Y := by rw [← hY]; exact a1z E5 (by omega) _ _ _ _ _ _ _ _ _
  have F2 : Y.heap[w3.heap.size]? = some (.cells #[.int .i64 (n : Nat), .int .i64 0, .int .i64 0, .slice (some ⟨gN, 0, none⟩) r r] 50) := by rw [← hY]; exact (a4j (by omega)).trans F1
  have O2 : OwnR Y gN 30 3 r r (flat (List.replicate r nilV)) := O1.same (by rw [← hY]; exact a4j (by omega))
  clear n1 n2 n3 n4 lb c0 c1 d2 hmk hms hml hw1 hgN hD g1 g2 D0 R0 E4 R1 F1 O1 E5
  unfold set9 at hY
  go_wp2
  exact bodyPost_ret (d2z (B := W.heap.size + 1) rfl P1) rfl ⟨w3.heap.size, gN, rfl, O2, F2, by omega, by omega, by omega, E6⟩
 ·have hCI := CI.a w1 mc r hms hml hr (.cells #[.int .i64 (n : Nat), .int .i64 0, .int .i64 0, .slice (some ⟨w1.heap.size + 1, 0, none⟩) r r] 50)
  obtain ⟨w3, hw3⟩ := exq (((w1.alloc (.cells #[.int .i64 (n : Nat), .int .i64 0, .int .i64 0, .slice (some ⟨w1.heap.size + 1, 0, none⟩) r r] 50)).alloc (.cells mc 30)).drew)
  rw [hw3] at hCI ⊢
  clear hw3
  obtain ⟨gN, hgN⟩ := exq (w1.heap.size + 1)
  rw [hgN] at hCI ⊢
  obtain ⟨D, hD⟩ := exq (w1.heap.size)
  have hge : w1.heap.size ≤ gN := by omega
  have hDe : w1.heap.size ≤ D := by omega
  have hDg : D ≠ gN := by omega
  rw [hD] at hCI ⊢
  have D0 : w3.heap[D]? = some (.cells #[.int .i64 (n : Nat), .int .i64 0, .int .i64 0, .slice (some ⟨gN, 0, none⟩) r r] 50) := hCI.d
  have R0 : w3.heap[W.heap.size + 1]? = some zst := (hCI.b.block _ lw).trans g2
  obtain ⟨a0, a1, a2, a3⟩ := four D0
  have hs := hCI.b.size
  have lD := a0n D0
  have lg := hCI.o.lt
  obtain ⟨w4, hw4⟩ := exq (w3.alloc (.cells #[.int .i64 (n : Nat), .int .i64 0, .int .i64 0, .slice (some ⟨gN, 0, none⟩) r r] 50))
  have E4 : Below w3.heap.size w3 w4 := by rw [← hw4]; exact a0c (Below.refl _ _) _
  have R1 : w4.heap[W.heap.size + 1]? = some zst := (E4.block _ (a0n R0)).trans R0
  have F1 : w4.heap[w3.heap.size]? = some (.cells #[.int .i64 (n : Nat), .int .i64 0, .int .i64 0, .slice (some ⟨gN, 0, none⟩) r r] 50) := by rw [← hw4]; exact a0h _ _
  have O1 := hCI.o.same (E4.block gN lg)
  have E5 := a0b (a0b E1 hCI.b) E4
  obtain ⟨m0, m1, m2, m3, m4, m5, m6, m7, m8⟩ := nine R1
  obtain ⟨z0, z1, z2, z3, z4, z5, z6, z7, z8⟩ := frz R1
  obtain ⟨Y, hY⟩ := exq (set9 w4 (W.heap.size + 1) (.slice (some ⟨w3.heap.size, 0, none⟩) 1 1) (.slice none 0 0) (.slice none 0 0) (.int .i64 0) (.int .i64 0) (.int .i64 0) (.int .i64 0) (.int .i64 0) (.string ⟨#[]⟩))
  have P1 : Y.heap[W.heap.size + 1]? = some (.cells #[.slice (some ⟨w3.heap.size, 0, none⟩) 1 1, .slice none 0 0, .slice none 0 0, .int .i64 0, .int .i64 0, .int .i64 0, .int .i64 0, .int .i64 0, .string ⟨#[]⟩] 32) := by rw [← hY]; exact a1y R1
  have E6 : Below W.heap.size W Y := by rw [← hY]; exact a1z E5 (by omega) _ _ _ _ _ _ _ _ _
  have F2 : Y.heap[w3.heap.size]? = some (.cells #[.int .i64 (n : Nat), .int .i64 0, .int .i64 0, .slice (some ⟨gN, 0, none⟩) r r] 50) := by rw [← hY]; exact (a4j (by omega)).trans F1
  have O2 : OwnR Y gN 30 3 r r (flat (List.replicate r nilV)) := O1.same (by rw [← hY]; exact a4j (by omega))
  clear n1 n2 n3 n4 lb c0 c1 d2 hmk hms hml hw1 hgN hD g1 g2 D0 R0 E4 R1 F1 O1 E5
  unfold set9 at hY
  go_wp2
  exact bodyPost_ret (d2z (B := W.heap.size + 1) rfl P1) rfl ⟨w3.heap.size, gN, rfl, O2, F2, by omega, by omega, by omega, E6⟩
theorem d3a (hp : tm[2]?.getD undef = .pointer (some ⟨B, 0, none⟩)) (hq : tm[3]?.getD undef = x) (hx : W.heap[B]? = some (.cells #[a, b, c, d, e, f, g, h, i] 32)) : (results Tryz.f8 tm).run Tryz.prog W = .ok (.tuple #[.agg #[a, b, c, d, e, f, g, h, i], x]) W := by
 obtain ⟨d0, d1, d2, d3, d4, d5, d6, d7, d8⟩ := nine hx
 simp [results, Tryz.results8, go_sem, hp, hq, d0, d1, d2, d3, d4, d5, d6, d7, d8]
theorem b4v (b off nf cf n r : Nat) (W : World) (hn : n < nf) (d1 : W.cell? ⟨b, off + n * 4 + 1, none⟩ = some (.int .i64 (r : Nat))) (hr : r ≤ 250) (hmay : ∀ u, Below W.heap.size W u → Calls Tryz.prog 15 #[PV (some ⟨b, off, none⟩) nf cf n] u fun e w' => e = .returned (.bool true) ∧ Below u.heap.size u w') :
  Calls Tryz.prog 8 #[PV (some ⟨b, off, none⟩) nf cf n] W fun e W' => ∃ F g, e = .returned (.tuple #[stv (.slice (some ⟨F, 0, none⟩) 1 1) (.slice none 0 0) (.slice none 0 0) (begS n r), .int .i64 0]) ∧ OwnR W' g 30 3 r r (flat (List.replicate r nilV)) ∧ W'.heap[F]? = some (.cells #[.int .i64 (n : Nat), .int .i64 0, .int .i64 0, .slice (some ⟨g, 0, none⟩) r r] 50) ∧ W.heap.size ≤ F ∧ W.heap.size ≤ g ∧ F ≠ g ∧ Below W.heap.size W W' := by
 have hb := World.block_lt_of_cell? _ _ d1
 simp only at hb
 obtain ⟨w1, hw1⟩ := exq ((W.alloc (.cells #[.slice (some ⟨b, off, none⟩) nf cf, .int .i64 (n : Nat)] 24)).alloc zst)
 have E1 : Below W.heap.size W w1 := by rw [← hw1]; exact a0c (a0c (Below.refl _ _) _) _
 have g1 : w1.heap[W.heap.size]? = some (.cells #[.slice (some ⟨b, off, none⟩) nf cf, .int .i64 (n : Nat)] 24) := by rw [← hw1]; exact a0g _ (a0h _ _)
 have g2 : w1.heap[W.heap.size + 1]? = some zst := by rw [← hw1]; simpa using a0h (W.alloc _) _
 have c0 := a0a (i := 0) g1 rfl
 have c1 := a0a (i := 1) g1 rfl
 replace hmay : Hid _ := hmay
 go_enter Tryz.func8, Tryz.ntmps8
 go_wp2_with (go_at_call 15; refine (hmay.out _ E1).mono ?_; rintro e w2 ⟨rfl, hb2⟩; refine Hid.out ?_)
 refine Lib.hid ?_
 have G1 := a0d hb2 g1
 clear c0 c1
 have c0 := a0a (i := 0) G1 rfl
 have c1 := a0a (i := 1) G1 rfl
 obtain ⟨w3, hw3⟩ := exq (w2.alloc (.cells #[.slice (some ⟨b, off, none⟩) nf cf, .int .i64 (n : Nat), .slice none 0 0, .slice none 0 0, .slice none 0 0, .int .i64 0, .int .i64 0, .int .i64 0, .int .i64 0, .int .i64 0, .string ⟨#[]⟩] 46))
 have E3 : Below w2.heap.size w2 w3 := by rw [← hw3]; exact a0c (Below.refl _ _) _
 have M3 : w3.heap[w2.heap.size]? = some (.cells #[.slice (some ⟨b, off, none⟩) nf cf, .int .i64 (n : Nat), .slice none 0 0, .slice none 0 0, .slice none 0 0, .int .i64 0, .int .i64 0, .int .i64 0, .int .i64 0, .int .i64 0, .string ⟨#[]⟩] 46) := by rw [← hw3]; exact a0h _ _
 have b0 := a0l E3 c0
 have b1 := a0l E3 c1
 have hfr := a6v w2.heap.size b off nf cf n r w3 (a0a (i := 0) M3 rfl) hn (a0l E3 (a0l (a0b E1 hb2) d1)) hr
 have hfr' : Hid (∀ u, u = w3 → Calls Tryz.prog 25 #[.pointer (some ⟨w2.heap.size, 0, none⟩), .int .i64 (n : Nat)] u _) := fun u e => by subst e; exact hfr
 clear hfr
 go_wp2_with (go_at_call 25; refine (hfr'.out _ rfl).mono ?_; rintro e w4 ⟨g, rfl, hO, hg, hb4⟩; refine Hid.out ?_)
 refine Lib.hid ?_
 clear b0 b1 c0 c1 hw3 hfr' hmay
 obtain ⟨B, hB⟩ := exq (w2.heap.size)
 have s1 := a0n g2
 have s2 := hb2.size
 have s3 := a0n M3
 have s4 := hb4.size
 have s5 := hO.lt
 have M4 := (hb4.block _ s3).trans M3
 have R4 : w4.heap[W.heap.size + 1]? = some zst := (hb4.block _ (by omega)).trans ((E3.block _ (by omega)).trans ((hb2.block _ s1).trans g2))
 have E4 := a0b (a0b (a0b E1 hb2) E3) hb4
 rw [hB] at M4 s3 ⊢
 have b1 : W.heap.size + 1 < B := by omega
 clear E1 hb2 E3 hb4 g1 g2 G1 M3 hw1 hB
 obtain ⟨w5, hw5⟩ := exq (w4.alloc (.cells #[.int .i64 (n : Nat), .int .i64 0, .int .i64 0, .slice (some ⟨g, 0, none⟩) r r] 50))
 have E5 : Below w4.heap.size w4 w5 := by rw [← hw5]; exact a0c (Below.refl _ _) _
 have F5 : w5.heap[w4.heap.size]? = some (.cells #[.int .i64 (n : Nat), .int .i64 0, .int .i64 0, .slice (some ⟨g, 0, none⟩) r r] 50) := by rw [← hw5]; exact a0h _ _
 have M5 := (E5.block _ (by omega)).trans M4
 have R5 := (E5.block _ (a0n R4)).trans R4
 have O5 := hO.same (E5.block _ s5)
 have k2 : w5.cell? ⟨B, 2, none⟩ = some (.slice none 0 0) := a0a M5 rfl
 have f2 : w5.frozen? ⟨B, 2, none⟩ = false := a0e M5
 obtain ⟨w6, hw6⟩ := exq (w5.setCell ⟨B, 2, none⟩ (.slice (some ⟨w4.heap.size, 0, none⟩) 1 1))
 have M6 : w6.heap[B]? = some (.cells #[.slice (some ⟨b, off, none⟩) nf cf, .int .i64 (n : Nat), .slice (some ⟨w4.heap.size, 0, none⟩) 1 1, .slice none 0 0, .slice none 0 0, .int .i64 0, .int .i64 0, .int .i64 0, .int .i64 0, .int .i64 0, .string ⟨#[]⟩] 46) := by
  rw [← hw6]
  have := a0k (i := 2) (.slice (some ⟨w4.heap.size, 0, none⟩) 1 1) M5
  simpa using this
 have R6 : w6.heap[W.heap.size + 1]? = some zst := by rw [← hw6]; exact (a0f _ _ (by omega)).trans R5
 have F6 : w6.heap[w4.heap.size]? = some (.cells #[.int .i64 (n : Nat), .int .i64 0, .int .i64 0, .slice (some ⟨g, 0, none⟩) r r] 50) := by rw [← hw6]; exact (a0f _ _ (by omega)).trans F5
 have O6 : OwnR w6 g 30 3 r r (flat (List.replicate r nilV)) := O5.same (by rw [← hw6]; exact a0f _ _ (by omega))
 have E6 : Below W.heap.size W w6 := by rw [← hw6]; exact (a0b E4 E5).setCell (p := ⟨B, 2, none⟩) (by show _ ≤ B; omega) _
 clear M5 R5 F5 O5 E5 M4 R4 E4 hO
 have m2 := a0a (i := 2) M6 rfl
 have m3 := a0a (i := 3) M6 rfl
 have m4 := a0a (i := 4) M6 rfl
 have m5 := a0a (i := 5) M6 rfl
 have m6 := a0a (i := 6) M6 rfl
 have m7 := a0a (i := 7) M6 rfl
 have m8 := a0a (i := 8) M6 rfl
 have m9 := a0a (i := 9) M6 rfl
 have m10 := a0a (i := 10) M6 rfl
 obtain ⟨r0, r1, r2, r3, r4, r5, r6, r7, r8⟩ := nine R6
 obtain ⟨z0, z1, z2, z3, z4, z5, z6, z7, z8⟩ := frz R6
 obtain ⟨Y, hY⟩ := exq (set9 w6 (W.heap.size + 1) (.slice (some ⟨w4.heap.size, 0, none⟩) 1 1) (.slice none 0 0) (.slice none 0 0) (.int .i64 0) (.int .i64 0) (.int .i64 0) (.int .i64 0) (.int .i64 0) (.string ⟨#[]⟩))
 have P1 : Y.heap[W.heap.size + 1]? = some (.cells #[.slice (some ⟨w4.heap.size, 0, none⟩) 1 1, .slice none 0 0, .slice none 0 0, .int .i64 0, .int .i64 0, .int .i64 0, .int .i64 0, .int .i64 0, .string ⟨#[]⟩] 32) := by rw [← hY]; exact a1y R6
 have E7 : Below W.heap.size W Y := by rw [← hY]; exact a1z E6 (by omega) _ _ _ _ _ _ _ _ _
 have F7 : Y.heap[w4.heap.size]? = some (.cells #[.int .i64 (n : Nat), .int .i64 0, .int .i64 0, .slice (some ⟨g, 0, none⟩) r r] 50) := by rw [← hY]; exact (a4j (by omega)).trans F6
 have O7 : OwnR Y g 30 3 r r (flat (List.replicate r nilV)) := O6.same (by rw [← hY]; exact a4j (by omega))
 unfold set9 at hY
 clear M6 R6 F6 O6 E6
 go_wp2
 exact bodyPost_ret (d3a (B := W.heap.size + 1) rfl rfl P1) rfl ⟨w4.heap.size, g, rfl, O7, F7, by omega, by omega, by omega, E7⟩
theorem c6s (W : World) (hF : RowF W.heap.size W ca fs) (hS : StIn W.heap.size W fv tv ov s) (hb : stB1 fs mn s = true) (hr : frB 0 fuel 60000 = false) :
  Calls Tryz.prog 12 #[PV ca fs.length cc mn, stv fv tv ov s, .int .i64 fuel] W fun r w' => r = .returned (.tuple #[.agg #[.slice none 0 0, .slice none 0 0, .slice none 0 0, .int .i64 0, .int .i64 0, .int .i64 0, .int .i64 0, .int .i64 0, .string ⟨#[]⟩], .int .i64 6]) ∧ Below W.heap.size W w' := by
 obtain ⟨w1, hw1⟩ := exq (((W.alloc (.cells #[.slice ca fs.length cc, .int .i64 mn] 24)).alloc (stb fv tv ov s)).alloc zst)
 have E1 : Below W.heap.size W w1 := by rw [← hw1]; exact a0c (a0c (a0c (Below.refl _ _) _) _) _
 have g0 : w1.heap[W.heap.size]? = some (.cells #[.slice ca fs.length cc, .int .i64 mn] 24) := by
  rw [← hw1]; exact a0j (a0c (a0c (Below.refl _ _) _) _) (a0h _ _)
 have g1 : w1.heap[W.heap.size + 1]? = some (stb fv tv ov s) := by
  rw [← hw1]; exact a0j (a0c (Below.refl _ _) _) (a6w W _ _)
 have g2 : w1.heap[W.heap.size + 1 + 1]? = some zst := by rw [← hw1]; simpa using a0h ((W.alloc _).alloc _) _
 have q1 : ∀ u, Below w1.heap.size w1 u → Calls Tryz.prog 6 #[PV ca fs.length cc mn, stv fv tv ov s] u _ := fun u hu => a9e u ((hF.at E1).at hu) ((hS.at E1).at hu)
 rw [hb] at q1
 have q2 := fun w => a8c 0 fuel 60000 w
 rw [hr] at q2
 obtain ⟨fa, fc, rfl, _, _⟩ := hS.f
 obtain ⟨ta, tc, rfl, _, _⟩ := hS.t
 obtain ⟨oa, oc, rfl, _, _⟩ := hS.o
 obtain ⟨nf, hnf⟩ := exq (fs.length)
 obtain ⟨n1, hn1⟩ := exq (s.fr.length)
 obtain ⟨n2, hn2⟩ := exq (s.tb.length)
 obtain ⟨n3, hn3⟩ := exq (s.out.length)
 rw [hnf] at q1 g0 hw1 ⊢
 rw [hn1, hn2, hn3] at q1 g1 hw1 ⊢
 clear hF hS hnf hn1 hn2 hn3 hr
 replace q1 : Hid _ := q1
 replace q2 : Hid _ := q2
 have a0 := a0a (i := 0) g0 rfl
 have a1 := a0a (i := 1) g0 rfl
 obtain ⟨b0, b1, b2, b3, b4, b5, b6, b7, b8⟩ := nine g1
 go_enter Tryz.func12, Tryz.ntmps12
 go_wp2_with (go_at_call 6; refine (q1.out _ (Below.refl _ _)).mono ?_; rintro e w2 ⟨rfl, hb2⟩; refine Hid.out ?_)
 refine Lib.hid ?_
 clear a0 a1 b0 b1 b2 b3 b4 b5 b6 b7 b8
 have G2 := a0d hb2 g2
 obtain ⟨m0, m1, m2, m3, m4, m5, m6, m7, m8⟩ := nine G2
 obtain ⟨z0, z1, z2, z3, z4, z5, z6, z7, z8⟩ := frz G2
 obtain ⟨Y, hY⟩ := exq (set9 w2 (W.heap.size + 1 + 1) (.slice none 0 0) (.slice none 0 0) (.slice none 0 0) (.int .i64 0) (.int .i64 0) (.int .i64 0) (.int .i64 0) (.int .i64 0) (.string ⟨#[]⟩))
 have P1 : Y.heap[W.heap.size + 1 + 1]? = some zst := by rw [← hY]; exact a1y G2
 have E5 : Below W.heap.size W Y := by rw [← hY]; exact a1z (a0b E1 hb2) (by omega) _ _ _ _ _ _ _ _ _
 unfold set9 at hY
 go_wp2_with (go_at_call 29; refine (q2.out _).mono ?_; rintro e w3 ⟨rfl, hw3⟩; subst w3)
 exact bodyPost_ret (d0r (B := W.heap.size + 1 + 1) rfl rfl P1) rfl ⟨rfl, E5⟩
theorem c2d (ca : Option Addr) (nf cc : Nat) (mn : Int) (W : World) (hmay : ∀ u, Below W.heap.size W u → Calls Tryz.prog 15 #[PV ca nf cc mn] u fun e w' => e = .returned (.bool false) ∧ Below u.heap.size u w') :
  Calls Tryz.prog 8 #[PV ca nf cc mn] W fun e w' => e = .returned (.tuple #[.agg #[.slice none 0 0, .slice none 0 0, .slice none 0 0, .int .i64 0, .int .i64 0, .int .i64 0, .int .i64 0, .int .i64 0, .string ⟨#[]⟩], .int .i64 2]) ∧ Below W.heap.size W w' := by
 obtain ⟨w1, hw1⟩ := exq ((W.alloc (.cells #[.slice ca nf cc, .int .i64 mn] 24)).alloc zst)
 have E1 : Below W.heap.size W w1 := by rw [← hw1]; exact a0c (a0c (Below.refl _ _) _) _
 have g1 : w1.heap[W.heap.size]? = some (.cells #[.slice ca nf cc, .int .i64 mn] 24) := by rw [← hw1]; exact a0g _ (a0h _ _)
 have g2 : w1.heap[W.heap.size + 1]? = some zst := by rw [← hw1]; simpa using a0h (W.alloc _) _
 have c0 := a0a (i := 0) g1 rfl
 have c1 := a0a (i := 1) g1 rfl
 replace hmay : Hid _ := hmay
 go_enter Tryz.func8, Tryz.ntmps8
 go_wp2_with (go_at_call 15; refine (hmay.out _ E1).mono ?_; rintro e w2 ⟨rfl, hb2⟩; refine Hid.out ?_)
 refine Lib.hid ?_
 clear c0 c1
 have G2 := a0d hb2 g2
 obtain ⟨m0, m1, m2, m3, m4, m5, m6, m7, m8⟩ := nine G2
 obtain ⟨z0, z1, z2, z3, z4, z5, z6, z7, z8⟩ := frz G2
 obtain ⟨Y, hY⟩ := exq (set9 w2 (W.heap.size + 1) (.slice none 0 0) (.slice none 0 0) (.slice none 0 0) (.int .i64 0) (.int .i64 0) (.int .i64 0) (.int .i64 0) (.int .i64 0) (.string ⟨#[]⟩))
 have P1 : Y.heap[W.heap.size + 1]? = some zst := by rw [← hY]; exact a1y G2
 have E5 : Below W.heap.size W Y := by rw [← hY]; exact a1z (a0b E1 hb2) (by omega) _ _ _ _ _ _ _ _ _
 unfold set9 at hY
 go_wp2
 exact bodyPost_ret (d3a (B := W.heap.size + 1) rfl rfl P1) rfl ⟨rfl, E5⟩
theorem d0t (W : World) (hF : RowF W.heap.size W ca fs) (hS : StIn W.heap.size W fv tv ov s) (hb : stB1 fs mn s = false) :
  Calls Tryz.prog 12 #[PV ca fs.length cc mn, stv fv tv ov s, .int .i64 fuel] W fun r w' => r = .returned (.tuple #[.agg #[.slice none 0 0, .slice none 0 0, .slice none 0 0, .int .i64 0, .int .i64 0, .int .i64 0, .int .i64 0, .int .i64 0, .string ⟨#[]⟩], .int .i64 2]) ∧ Below W.heap.size W w' := by
 obtain ⟨w1, hw1⟩ := exq (((W.alloc (.cells #[.slice ca fs.length cc, .int .i64 mn] 24)).alloc (stb fv tv ov s)).alloc zst)
 have E1 : Below W.heap.size W w1 := by rw [← hw1]; exact a0c (a0c (a0c (Below.refl _ _) _) _) _
 have g0 : w1.heap[W.heap.size]? = some (.cells #[.slice ca fs.length cc, .int .i64 mn] 24) := by
  rw [← hw1]; exact a0j (a0c (a0c (Below.refl _ _) _) _) (a0h _ _)
 have g1 : w1.heap[W.heap.size + 1]? = some (stb fv tv ov s) := by
  rw [← hw1]; exact a0j (a0c (Below.refl _ _) _) (a6w W _ _)
 have g2 : w1.heap[W.heap.size + 1 + 1]? = some zst := by rw [← hw1]; simpa using a0h ((W.alloc _).alloc _) _
 have q1 : ∀ u, Below w1.heap.size w1 u → Calls Tryz.prog 6 #[PV ca fs.length cc mn, stv fv tv ov s] u _ := fun u hu => a9e u ((hF.at E1).at hu) ((hS.at E1).at hu)
 rw [hb] at q1
 obtain ⟨fa, fc, rfl, _, _⟩ := hS.f
 obtain ⟨ta, tc, rfl, _, _⟩ := hS.t
 obtain ⟨oa, oc, rfl, _, _⟩ := hS.o
 obtain ⟨nf, hnf⟩ := exq (fs.length)
 obtain ⟨n1, hn1⟩ := exq (s.fr.length)
 obtain ⟨n2, hn2⟩ := exq (s.tb.length)
 obtain ⟨n3, hn3⟩ := exq (s.out.length)
 rw [hnf] at q1 g0 hw1 ⊢
 rw [hn1, hn2, hn3] at q1 g1 hw1 ⊢
 clear hF hS hnf hn1 hn2 hn3
 replace q1 : Hid _ := q1
 have a0 := a0a (i := 0) g0 rfl
 have a1 := a0a (i := 1) g0 rfl
 obtain ⟨b0, b1, b2, b3, b4, b5, b6, b7, b8⟩ := nine g1
 go_enter Tryz.func12, Tryz.ntmps12
 go_wp2_with (go_at_call 6; refine (q1.out _ (Below.refl _ _)).mono ?_; rintro e w2 ⟨rfl, hb2⟩; refine Hid.out ?_)
 refine Lib.hid ?_
 clear a0 a1 b0 b1 b2 b3 b4 b5 b6 b7 b8
 have G2 := a0d hb2 g2
 obtain ⟨m0, m1, m2, m3, m4, m5, m6, m7, m8⟩ := nine G2
 obtain ⟨z0, z1, z2, z3, z4, z5, z6, z7, z8⟩ := frz G2
 obtain ⟨Y, hY⟩ := exq (set9 w2 (W.heap.size + 1 + 1) (.slice none 0 0) (.slice none 0 0) (.slice none 0 0) (.int .i64 0) (.int .i64 0) (.int .i64 0) (.int .i64 0) (.int .i64 0) (.string ⟨#[]⟩))
 have P1 : Y.heap[W.heap.size + 1 + 1]? = some zst := by rw [← hY]; exact a1y G2
 have E5 : Below W.heap.size W Y := by rw [← hY]; exact a1z (a0b E1 hb2) (by omega) _ _ _ _ _ _ _ _ _
 unfold set9 at hY
 go_wp2
 exact bodyPost_ret (d0r (B := W.heap.size + 1 + 1) rfl rfl P1) rfl ⟨rfl, E5⟩
end
end Go.Proofs.YthpgbienakcbeaaGreatDoor
