/- Going on: machine.Go. MachineParts: the law. -/
import Derived.Test.YthdhgfpidhbdiaaGreatDoorJ38
import Derived.Test.YthdhgfpidhbdiaaGreatDoorJ49
import Derived.Test.YthdhgfpidhbdiaaGreatDoorJ43
import Derived.Test.YthdhgfpidhbdiaaGreatDoorJ46
import Derived.Test.YthdhgfpidhbdiaaGreatDoorJ44
import Derived.Deep.LoopGhost
import Derived.Test.YthdhgfpidhbdiaaGreatDoorJ47
namespace Go.Proofs.YthdhgfpidhbdiaaGreatDoor
open Go.RowKit
open Go

set_option linter.unusedSectionVars false
variable [DecidableEq Vl]

theorem stepR_st (F : Int → Vl → Vl → Vl × Int) (fs : List Fd) (s : St) : (stepR F fs s).st = s.st + 1 := by
  unfold stepR
  cases s.fr.getLast? with
  | none => rfl
  | some x =>
    simp only
    cases orderAt fs x with
    | none => rfl
    | some o =>
      simp only
      cases h : doR F fs o s.fr.dropLast x { s with st := s.st + 1 } with
      | inl c => rfl
      | inr t =>
        simp only
        unfold doR at h
        repeat' (split at h)
        all_goals first | (cases h; rfl) | cases h
/-- States that bear no negative number of steps. -/
def GS : Type := { s : St // 0 ≤ s.st }
def stepS (F : Int → Vl → Vl → Vl × Int) (fs : List Fd) (s : GS) : GS := ⟨stepR F fs s.1, by rw [stepR_st]; have := s.2; omega⟩
def liveS (s : GS) : Bool := decide (s.1.en = 0)
def stS (s : GS) : Nat := s.1.st.toNat
theorem stepS_st (F : Int → Vl → Vl → Vl × Int) (fs : List Fd) (s : GS) : stS (stepS F fs s) = stS s + 1 := by
  have := s.2
  show (stepR F fs s.1).st.toNat = s.1.st.toNat + 1
  rw [stepR_st]
  omega
/-- Where it comes to. -/
def goT (F : Int → Vl → Vl → Vl × Int) (fs : List Fd) (fuel : Nat) (s : GS) : GS := goP (stepS F fs) liveS stS fuel fuel s
theorem goT_parts (F : Int → Vl → Vl → Vl × Int) (fs : List Fd) {few more : Nat} (h : few ≤ more) (s : GS) : goT F fs more (goT F fs few s) = goT F fs more s :=
  goP_parts (stepS_st F fs) h few more s (by omega) (by omega)
theorem goP_good {F : Int → Vl → Vl → Vl × Int} (hF : OpF F) {fs : List Fd} {mn : Int} (hp : progB fs mn = true) {fuel : Nat} (hf : fuel ≤ 60000) : ∀ (k : Nat) (s : GS), Good fs s.1 → Good fs (goP (stepS F fs) liveS stS fuel k s).1
  | 0, _, h => h
  | k + 1, s, h => by
    rw [goP]
    split
    · rename_i hc
      refine goP_good hF hp hf k _ (step_good hF hp h (by simpa [liveS] using hc.1) ?_)
      have := hc.2
      have := s.2
      unfold stS at *
      omega
    · exact h
theorem prog_small {fs : List Fd} {mn : Int} (hp : progB fs mn = true) : ∀ f ∈ fs, f.r ≤ 1000 := fun f hf => by
  obtain ⟨j, hj⟩ := List.mem_iff_getElem?.1 hf
  have := (prog_fn hp hj).r2
  omega
theorem res12 {tm : Array Value} {W : World} {B : Nat} {a b c d e f g h i x : Value} (hp : tm[6]?.getD undef = .pointer (some ⟨B, 0, none⟩)) (hq : tm[7]?.getD undef = x) (hx : W.heap[B]? = some (.cells #[a, b, c, d, e, f, g, h, i] 32)) : (results Tryz.f12 tm).run Tryz.prog W = .ok (.tuple #[.agg #[a, b, c, d, e, f, g, h, i], x]) W := by
  obtain ⟨d0, d1, d2, d3, d4, d5, d6, d7, d8⟩ := nine hx
  simp [results, Tryz.results12, go_sem, hp, hq, d0, d1, d2, d3, d4, d5, d6, d7, d8]
/-- A state is stored. -/
def set9 (W : World) (B : Nat) (a b c d e f g h i : Value) : World := ((((((((W.setCell ⟨B, 0, none⟩ a).setCell ⟨B, 1, none⟩ b).setCell ⟨B, 2, none⟩ c).setCell ⟨B, 3, none⟩ d).setCell ⟨B, 4, none⟩ e).setCell ⟨B, 5, none⟩ f).setCell ⟨B, 6, none⟩ g).setCell ⟨B, 7, none⟩ h).setCell ⟨B, 8, none⟩ i
theorem set9_block {W : World} {B : Nat} {a b c d e f g h i a' b' c' d' e' f' g' h' i' : Value} (hx : W.heap[B]? = some (.cells #[a', b', c', d', e', f', g', h', i'] 32)) : (set9 W B a b c d e f g h i).heap[B]? = some (.cells #[a, b, c, d, e, f, g, h, i] 32) := by
  have k := set_block (i := 8) i (set_block (i := 7) h (set_block (i := 6) g (set_block (i := 5) f (set_block (i := 4) e (set_block (i := 3) d (set_block (i := 2) c (set_block (i := 1) b (set_block (i := 0) a hx))))))))
  simp only [List.setIfInBounds_toArray, List.set_cons_zero, List.set_cons_succ] at k
  exact k
theorem set9_beh (W : World) (B : Nat) (a b c d e f g h i : Value) : Beh B W (set9 W B a b c d e f g h i) :=
  (((((((((Beh.refl _ _).set (Nat.le_refl _) _ _).set (Nat.le_refl _) _ _).set (Nat.le_refl _) _ _).set (Nat.le_refl _) _ _).set (Nat.le_refl _) _ _).set (Nat.le_refl _) _ _).set (Nat.le_refl _) _ _).set (Nat.le_refl _) _ _).set (Nat.le_refl _) _ _
theorem set9_below {w W : World} {B m : Nat} (hb : Below m w W) (hB : m ≤ B) (a b c d e f g h i : Value) : Below m w (set9 W B a b c d e f g h i) :=
  ((((((((hb.setCell (p := ⟨B, 0, none⟩) hB _).setCell (p := ⟨B, 1, none⟩) hB _).setCell (p := ⟨B, 2, none⟩) hB _).setCell (p := ⟨B, 3, none⟩) hB _).setCell (p := ⟨B, 4, none⟩) hB _).setCell (p := ⟨B, 5, none⟩) hB _).setCell (p := ⟨B, 6, none⟩) hB _).setCell (p := ⟨B, 7, none⟩) hB _).setCell (p := ⟨B, 8, none⟩) hB _
theorem frz {W : World} {B : Nat} {c : Array Value} {t : TypeId} (h : W.heap[B]? = some (.cells c t)) : W.frozen? ⟨B, 0, none⟩ = false ∧ W.frozen? ⟨B, 1, none⟩ = false ∧ W.frozen? ⟨B, 2, none⟩ = false ∧ W.frozen? ⟨B, 3, none⟩ = false ∧ W.frozen? ⟨B, 4, none⟩ = false ∧ W.frozen? ⟨B, 5, none⟩ = false ∧ W.frozen? ⟨B, 6, none⟩ = false ∧ W.frozen? ⟨B, 7, none⟩ = false ∧ W.frozen? ⟨B, 8, none⟩ = false :=
  ⟨frozen_block h, frozen_block h, frozen_block h, frozen_block h, frozen_block h, frozen_block h, frozen_block h, frozen_block h, frozen_block h⟩
set_option maxRecDepth 20000 in
set_option maxHeartbeats 8000000 in
theorem go_bad {ca : Option Addr} {cc : Nat} {fs : List Fd} {mn fuel : Int} {fv tv ov : Value} {s : St} (W : World) (hF : RowF W.heap.size W ca fs) (hS : StIn W.heap.size W fv tv ov s) (hb : stB1 fs mn s = false) :
    Calls Tryz.prog 12 #[PV ca fs.length cc mn, stv fv tv ov s, .int .i64 fuel] W fun r w' => r = .returned (.tuple #[.agg #[.slice none 0 0, .slice none 0 0, .slice none 0 0, .int .i64 0, .int .i64 0, .int .i64 0, .int .i64 0, .int .i64 0, .string ⟨#[]⟩], .int .i64 2]) ∧ Below W.heap.size W w' := by
  obtain ⟨w1, hw1⟩ : ∃ w1, ((W.alloc (.cells #[.slice ca fs.length cc, .int .i64 mn] 24)).alloc (stb fv tv ov s)).alloc zst = w1 := ⟨_, rfl⟩
  have E1 : Below W.heap.size W w1 := by rw [← hw1]; exact ext_alloc (ext_alloc (ext_alloc (Below.refl _ _) _) _) _
  have g0 : w1.heap[W.heap.size]? = some (.cells #[.slice ca fs.length cc, .int .i64 mn] 24) := by
    rw [← hw1]; exact blk_below (ext_alloc (ext_alloc (Below.refl _ _) _) _) (heap_new _ _)
  have g1 : w1.heap[W.heap.size + 1]? = some (stb fv tv ov s) := by
    rw [← hw1]; exact blk_below (ext_alloc (Below.refl _ _) _) (new2' W _ _)
  have g2 : w1.heap[W.heap.size + 1 + 1]? = some zst := by rw [← hw1]; simpa using heap_new ((W.alloc _).alloc _) _
  have q1 : ∀ u, Below w1.heap.size w1 u → Calls Tryz.prog 6 #[PV ca fs.length cc mn, stv fv tv ov s] u _ := fun u hu => mmay_any u ((hF.at E1).at hu) ((hS.at E1).at hu)
  rw [hb] at q1
  obtain ⟨fa, fc, rfl, _, _⟩ := hS.f
  obtain ⟨ta, tc, rfl, _, _⟩ := hS.t
  obtain ⟨oa, oc, rfl, _, _⟩ := hS.o
  obtain ⟨nf, hnf⟩ : ∃ n, fs.length = n := ⟨_, rfl⟩
  obtain ⟨n1, hn1⟩ : ∃ n, s.fr.length = n := ⟨_, rfl⟩
  obtain ⟨n2, hn2⟩ : ∃ n, s.tb.length = n := ⟨_, rfl⟩
  obtain ⟨n3, hn3⟩ : ∃ n, s.out.length = n := ⟨_, rfl⟩
  rw [hnf] at q1 g0 hw1 ⊢
  rw [hn1, hn2, hn3] at q1 g1 hw1 ⊢
  clear hF hS hnf hn1 hn2 hn3
  replace q1 : Hid _ := q1
  have a0 := cell_block (i := 0) g0 rfl
  have a1 := cell_block (i := 1) g0 rfl
  obtain ⟨b0, b1, b2, b3, b4, b5, b6, b7, b8⟩ := nine g1
  go_enter Tryz.func12, Tryz.ntmps12
  go_wp2_with (go_at_call 6; refine (q1.out _ (Below.refl _ _)).mono ?_; rintro e w2 ⟨rfl, hb2⟩; refine Hid.out ?_)
  refine Lib.hid ?_
  clear a0 a1 b0 b1 b2 b3 b4 b5 b6 b7 b8
  have G2 := block_below hb2 g2
  obtain ⟨m0, m1, m2, m3, m4, m5, m6, m7, m8⟩ := nine G2
  obtain ⟨z0, z1, z2, z3, z4, z5, z6, z7, z8⟩ := frz G2
  obtain ⟨Y, hY⟩ : ∃ Y, set9 w2 (W.heap.size + 1 + 1) (.slice none 0 0) (.slice none 0 0) (.slice none 0 0) (.int .i64 0) (.int .i64 0) (.int .i64 0) (.int .i64 0) (.int .i64 0) (.string ⟨#[]⟩) = Y := ⟨_, rfl⟩
  have P1 : Y.heap[W.heap.size + 1 + 1]? = some zst := by rw [← hY]; exact set9_block G2
  have E5 : Below W.heap.size W Y := by rw [← hY]; exact set9_below (ext_trans E1 hb2) (by omega) _ _ _ _ _ _ _ _ _
  unfold set9 at hY
  go_wp2
  exact bodyPost_ret (res12 (B := W.heap.size + 1 + 1) rfl rfl P1) rfl ⟨rfl, E5⟩
/-- While it lives. -/
structure GI (w1 : World) (F : Int → Vl → Vl → Vl × Int) (cv : Value) (mn : Int) (fs : List Fd) (fuel : Nat) (R : GS) (B : Nat) (k : Nat) (wr : World) : Prop where
  ex : ∃ (p : Mp) (t : GS), p.B = B ∧ Mc w1 p cv mn t.1 wr ∧ Good fs t.1 ∧ goP (stepS F fs) liveS stS fuel k t = R ∧ fuel ≤ stS t + k
set_option maxRecDepth 20000 in
set_option maxHeartbeats 8000000 in
theorem go_ok {F : Int → Vl → Vl → Vl × Int} (hOp : OpF F) {ca : Option Addr} {cc : Nat} {fs : List Fd} {mn : Int} {fuel : Nat} (hfu : fuel ≤ 60000) {fv tv ov : Value} {s : GS} (W : World) (hT : PTab W) (hF : RowF W.heap.size W ca fs) (hS : StIn W.heap.size W fv tv ov s.1) (hb : stB1 fs mn s.1 = true) (t : St) (htt : t = (goT F fs fuel s).1) :
    Calls Tryz.prog 12 #[PV ca fs.length cc mn, stv fv tv ov s.1, .int .i64 fuel] W fun r w' => ∃ F fc T tc U uc fw tw, r = .returned (.tuple #[stv (.slice (some ⟨F, 0, none⟩) t.fr.length fc) (.slice (some ⟨T, 0, none⟩) t.tb.length tc) (.slice (some ⟨U, 0, none⟩) t.out.length uc) t, .int .i64 0]) ∧ FS W.heap.size w' F fc T tc U uc fw tw t ∧ Below W.heap.size W w' := by
  obtain ⟨hp, hg⟩ := stB1_iff.1 hb
  obtain ⟨w1, hw1⟩ : ∃ w1, ((W.alloc (.cells #[.slice ca fs.length cc, .int .i64 mn] 24)).alloc (stb fv tv ov s.1)).alloc zst = w1 := ⟨_, rfl⟩
  have E1 : Below W.heap.size W w1 := by rw [← hw1]; exact ext_alloc (ext_alloc (ext_alloc (Below.refl _ _) _) _) _
  have g0 : w1.heap[W.heap.size]? = some (.cells #[.slice ca fs.length cc, .int .i64 mn] 24) := by
    rw [← hw1]; exact blk_below (ext_alloc (ext_alloc (Below.refl _ _) _) _) (heap_new _ _)
  have g1 : w1.heap[W.heap.size + 1]? = some (stb fv tv ov s.1) := by
    rw [← hw1]; exact blk_below (ext_alloc (Below.refl _ _) _) (new2' W _ _)
  have g2 : w1.heap[W.heap.size + 1 + 1]? = some zst := by rw [← hw1]; simpa using heap_new ((W.alloc _).alloc _) _
  have q1 : ∀ u, Below w1.heap.size w1 u → Calls Tryz.prog 6 #[PV ca fs.length cc mn, stv fv tv ov s.1] u _ := fun u hu => mmay_any u ((hF.at E1).at hu) ((hS.at E1).at hu)
  rw [hb] at q1
  have q2 : ∀ u, Below w1.heap.size w1 u → Calls Tryz.prog 30 #[PV ca fs.length cc mn, stv fv tv ov s.1] u _ := fun u hu => new_any (.slice ca fs.length cc) fv tv ov ca fs.length cc rfl mn s.1 u ((hS.at E1).at hu) (hg.small (prog_small hp))
  have q3 : ∀ u (p : Mp) (t : GS) (W' : World), Below w1.heap.size w1 u → Mc u p (.slice ca fs.length cc) mn t.1 W' → Good fs t.1 → t.1.st < 60000 → Calls Tryz.prog 31 #[.pointer (some ⟨p.B, 0, none⟩)] W' _ := fun u p t W' hu hM hG h60 => mstep_any hOp hp ⟨ca, cc, rfl, (hF.at E1).at hu⟩ (hT.on (ext_trans E1 hu)) hM hG h60
  have q4 : ∀ (u : World) (p : Mp) (W' : World), Mc u p (.slice ca fs.length cc) mn t W' → Good fs t → Calls Tryz.prog 32 #[.pointer (some ⟨p.B, 0, none⟩)] W' _ := fun u p W' hM hG => mfresh_any hM (hG.small (prog_small hp))
  have q5 := fun w => mfrom_any 0 fuel 60000 w
  rw [show frB 0 (fuel : Int) 60000 = true by simp [frB]; omega] at q5
  obtain ⟨fa, fc, rfl, _, _⟩ := hS.f
  obtain ⟨ta, tc, rfl, _, _⟩ := hS.t
  obtain ⟨oa, oc, rfl, _, _⟩ := hS.o
  have hsg : ∀ t : GS, Good fs t.1 → t.1.en = 0 → t.1.st < 60000 → Good fs (stepS F fs t).1 := fun t h1 h2 h3 => step_good hOp hp h1 h2 h3
  obtain ⟨nf, hnf⟩ : ∃ n, fs.length = n := ⟨_, rfl⟩
  obtain ⟨n1, hn1⟩ : ∃ n, s.1.fr.length = n := ⟨_, rfl⟩
  obtain ⟨n2, hn2⟩ : ∃ n, s.1.tb.length = n := ⟨_, rfl⟩
  obtain ⟨n3, hn3⟩ : ∃ n, s.1.out.length = n := ⟨_, rfl⟩
  obtain ⟨t1, ht1⟩ : ∃ n, t.fr.length = n := ⟨_, rfl⟩
  obtain ⟨t2, ht2⟩ : ∃ n, t.tb.length = n := ⟨_, rfl⟩
  obtain ⟨t3, ht3⟩ : ∃ n, t.out.length = n := ⟨_, rfl⟩
  rw [hnf] at q1 q2 q3 q4 g0 hw1 ⊢
  rw [hn1, hn2, hn3] at q1 q2 g1 hw1 ⊢
  rw [ht1, ht2, ht3] at q4 ⊢
  clear hF hS hnf hn1 hn2 hn3 hb ht1 ht2 ht3
  replace q1 : Hid _ := q1
  replace q2 : Hid _ := q2
  replace q3 : Hid _ := q3
  replace q4 : Hid _ := q4
  replace q5 : Hid _ := q5
  replace hsg : Hid _ := hsg
  have a0 := cell_block (i := 0) g0 rfl
  have a1 := cell_block (i := 1) g0 rfl
  obtain ⟨b0, b1, b2, b3, b4, b5, b6, b7, b8⟩ := nine g1
  go_enter Tryz.func12, Tryz.ntmps12
  go_wp2_with (first | (go_at_call 6; refine (q1.out _ (Below.refl _ _)).mono ?_; rintro e w2 ⟨rfl, hb2⟩; have A0 := cellB hb2 a0; have A1 := cellB hb2 a1; have B0 := cellB hb2 b0; have B1 := cellB hb2 b1; have B2 := cellB hb2 b2; have B3 := cellB hb2 b3; have B4 := cellB hb2 b4; have B5 := cellB hb2 b5; have B6 := cellB hb2 b6; have B7 := cellB hb2 b7; have B8 := cellB hb2 b8) | (go_at_call 29; refine (q5.out _).mono ?_; rintro e w' ⟨rfl, hw'⟩; subst w') | (go_at_call 30; refine (q2.out _ hb2).mono ?_; rintro e w3 ⟨p, rfl, _, hM⟩; refine Hid.out ?_))
  refine Lib.hid ?_
  clear a0 a1 b0 b1 b2 b3 b4 b5 b6 b7 b8 A0 A1 B0 B1 B2 B3 B4 B5 B6 B7 B8
  have e3 := hM.bl
  have f2 := blk_below (ext_trans hb2 e3) g2
  have hR : goP (stepS F fs) liveS stS fuel fuel s = goT F fs fuel s := rfl
  obtain ⟨R, hRR⟩ : ∃ R, goT F fs fuel s = R := ⟨_, rfl⟩
  rw [hRR] at hR htt
  have hI : GI w2 F (.slice ca nf cc) mn fs fuel R p.B fuel w3 := ⟨p, s, rfl, hM, hg, hR, by omega⟩
  obtain ⟨B, hB⟩ : ∃ B, p.B = B := ⟨_, rfl⟩
  rw [hB] at hI ⊢
  have hg3 : w2.heap[W.heap.size + 1 + 1]? = some zst := blk_below hb2 g2
  have E2 := ext_trans E1 hb2
  clear hM e3 f2 hR hRR hB hg g0 g1 g2 hw1
  go_wp2
  go_loopg [21] fuel (fun k _ wr => GI w2 F (.slice ca nf cc) mn fs fuel R B k wr)
  case atStart => exact hI
  case round =>
    clear hI
    obtain ⟨p, x, rfl, hM, hg, hR, hk⟩ := hrel.ex
    clear hrel
    obtain ⟨_, _, _, _, _, c5, c6, _⟩ := hM.cells
    obtain ⟨st, hst⟩ : ∃ st, x.1.st = st := ⟨_, rfl⟩
    obtain ⟨en, hen⟩ : ∃ en, x.1.en = en := ⟨_, rfl⟩
    rw [hst] at c5
    rw [hen] at c6
    by_cases hgo : en = 0 ∧ st < fuel
    · obtain ⟨h1, h2⟩ := hgo
      have h6 : (en == 0) = true := by simpa using h1
      have hs2 := x.2
      rw [hst] at hs2
      have hk0 : 0 < gk := by
        have : stS x = st.toNat := by rw [← hst]; rfl
        omega
      obtain ⟨k', rfl⟩ : ∃ k', gk = k' + 1 := ⟨gk - 1, by omega⟩
      have hl : liveS x = true ∧ stS x < fuel := ⟨by simp [liveS, hen, h1], by show x.1.st.toNat < fuel; omega⟩
      have hnx : ∀ W' p', p'.B = p.B → Mc w2 p' (.slice ca nf cc) mn (stepR F fs x.1) W' → GI w2 F (.slice ca nf cc) mn fs fuel R p.B k' W' := fun W' p' e hM' => ⟨p', stepS F fs x, e, hM', hsg.out x hg (by rw [hen]; exact h1) (by omega), by rw [goP, if_pos hl] at hR; exact hR, by rw [stepS_st]; omega⟩
      have hstep := q3.out w2 p x wr hb2 hM hg (by omega)
      replace hnx : Hid _ := hnx
      clear hM hg hR hk hl hst hen h1 hk0 hs2
      go_wp2_with (go_at_call 31; refine hstep.mono ?_; rintro e w4 ⟨rfl, p', e1, _, hM4, _⟩)
      go_roundg k'
      case measure => omega
      case rel => exact hnx.out _ p' e1 hM4
    · have hs2 := x.2
      have hl : ¬ (liveS x = true ∧ stS x < fuel) := fun hl => hgo ⟨by rw [← hen]; simpa [liveS] using hl.1, by have := hl.2; unfold stS at this; omega⟩
      rw [goP_stop hl] at hR
      rw [← hR] at htt
      rw [← htt] at hM hg
      have hf := q4.out w2 p wr hM hg
      have e3 := hM.bl
      have G2 := blk_below e3 hg3
      have z2 : W.heap.size + 1 + 1 < wr.heap.size := block_lt G2
      clear hM hg hR hk hl hst hen hs2 htt
      have hd : (en == 0) = false ∨ ((en == 0) = true ∧ decide (st < fuel) = false) := by
        by_cases h : en = 0
        · right
          exact ⟨by simpa using h, by simp; by_cases h2 : st < fuel; exact absurd ⟨h, h2⟩ hgo; omega⟩
        · left
          simpa using h
      clear hgo
      rcases hd with h6 | ⟨h6, h5⟩
      all_goals
        go_wp2_with (go_at_call 32; refine hf.mono ?_; rintro e w4 ⟨F', fc', T', tc', U', uc', fw', tw', rfl, hFS, hb4⟩; refine Hid.out ?_)
        refine Lib.hid ?_
        have G4 := block_below hb4 G2
        obtain ⟨m0, m1, m2, m3, m4, m5, m6, m7, m8⟩ := nine G4
        obtain ⟨z00, z01, z02, z03, z04, z05, z06, z07, z08⟩ := frz G4
        obtain ⟨Y, hY⟩ : ∃ Y, set9 w4 (W.heap.size + 1 + 1) (.slice (some ⟨F', 0, none⟩) t1 fc') (.slice (some ⟨T', 0, none⟩) t2 tc') (.slice (some ⟨U', 0, none⟩) t3 uc') (.int .i64 t.st) (.int .i64 t.en) (.int .i64 t.er) (.int .i64 t.la.k) (.int .i64 t.la.n) (.string t.la.s) = Y := ⟨_, rfl⟩
        have P1 : Y.heap[W.heap.size + 1 + 1]? = some (stb (.slice (some ⟨F', 0, none⟩) t1 fc') (.slice (some ⟨T', 0, none⟩) t2 tc') (.slice (some ⟨U', 0, none⟩) t3 uc') t) := by rw [← hY]; exact set9_block G4
        have E5 : Below W.heap.size W Y := by rw [← hY]; exact set9_below (ext_trans (ext_trans E2 e3) hb4) (by omega) _ _ _ _ _ _ _ _ _
        have B5 : Beh (W.heap.size + 1 + 1) w4 Y := by rw [← hY]; exact set9_beh _ _ _ _ _ _ _ _ _ _ _
        unfold set9 at hY
        go_wp2
        exact bodyPost_ret (res12 (B := W.heap.size + 1 + 1) rfl rfl P1) rfl ⟨F', fc', T', tc', U', uc', fw', tw', rfl, (hFS.keep B5 z2).weak (by have := e3.size; have := E2.size; omega), E5⟩
end Go.Proofs.YthdhgfpidhbdiaaGreatDoor
namespace Go.Proofs.YthdhgfpidhbdiaaGreatDoor
open Go.RowKit
open Go

set_option linter.unusedSectionVars false
variable [DecidableEq Vl]

theorem FS.stin {lo : Nat} {W : World} {F fc T tc U uc : Nat} {fw : List Fw} {tw : List Tw} {s : St} (h : FS lo W F fc T tc U uc fw tw s) : StIn W.heap.size W (.slice (some ⟨F, 0, none⟩) s.fr.length fc) (.slice (some ⟨T, 0, none⟩) s.tb.length tc) (.slice (some ⟨U, 0, none⟩) s.out.length uc) s := by
  refine ⟨⟨_, _, rfl, h.fo.max, fun _ => ⟨F, 0, rfl, h.fo.lt, fun j x hx => ?_⟩⟩, ⟨_, _, rfl, h.to.max, fun _ => ⟨T, 0, rfl, h.to.lt, fun j x hx => ?_⟩⟩, ⟨_, _, rfl, h.uo.max, fun _ => ⟨U, 0, rfl, h.uo.lt, fun j x hx => ?_⟩⟩⟩
  · rw [← h.hf, List.getElem?_map] at hx
    obtain ⟨q, hq, rfl⟩ := Option.map_eq_some_iff.1 hx
    obtain ⟨e0, e1, e2, e3⟩ := frCells_at hq
    rw [Nat.zero_add]
    exact ⟨(h.fo.cell e0).1, (h.fo.cell e1).1, (h.fo.cell e2).1, _, (h.fo.cell e3).1, (h.rg q (List.mem_of_getElem? hq)).row⟩
  · rw [← h.ht, List.getElem?_map] at hx
    obtain ⟨q, hq, rfl⟩ := Option.map_eq_some_iff.1 hx
    obtain ⟨e0, e1⟩ := tbCells_at hq
    rw [Nat.zero_add]
    have ht := h.tr [] (by simp) q (List.mem_of_getElem? hq)
    exact ⟨_, _, (h.to.cell e0).1, (h.to.cell e1).1, ht.1.row, ht.2.row⟩
  · rw [Nat.zero_add]
    exact (h.uo.cell (by rw [List.getElem?_map, hx]; rfl)).1

set_option maxRecDepth 100000 in
set_option maxHeartbeats 8000000 in
theorem parts_idle (pv sv0 sv1 sv2 : Value) (s : St) (W : World) (few more : Int) (ca : Option Addr) (cn cc : Nat) (mn : Int) (hpv : pv = PV ca cn cc mn) (fa ta oa : Option Addr) (n1 n2 n3 fc tc oc : Nat) (h0 : sv0 = .slice fa n1 fc) (h1 : sv1 = .slice ta n2 tc) (h2 : sv2 = .slice oa n3 oc) (h : few < 0 ∨ more < few ∨ 4000 < more) :
    Calls Tryz.prog 5 #[pv, stv sv0 sv1 sv2 s, .int .i64 few, .int .i64 more] W fun r w' => r = .returned (.bool true) ∧ Below W.heap.size W w' := by
  subst hpv h0 h1 h2
  cases d1 : decide (few < 0)
  · cases d2 : decide (more < few)
    · cases d3 : decide (4000 < more)
      · simp at d1 d2 d3
        omega
      · clear h
        go_enter Tryz.func5, Tryz.ntmps5
        go_wp2
        go_ret
        exact ⟨rfl, ext_alloc (ext_alloc (Below.refl _ _) _) _⟩
    · clear h
      go_enter Tryz.func5, Tryz.ntmps5
      go_wp2
      go_ret
      exact ⟨rfl, ext_alloc (ext_alloc (Below.refl _ _) _) _⟩
  · clear h
    go_enter Tryz.func5, Tryz.ntmps5
    go_wp2
    go_ret
    exact ⟨rfl, ext_alloc (ext_alloc (Below.refl _ _) _) _⟩
set_option maxRecDepth 100000 in
set_option maxHeartbeats 8000000 in
theorem parts_bad {ca : Option Addr} {cc : Nat} {fs : List Fd} {mn : Int} (few more : Nat) (hfm : few ≤ more) (hm : more ≤ 4000) {fv tv ov : Value} {s : St} (W : World) (hF : RowF W.heap.size W ca fs) (hS : StIn W.heap.size W fv tv ov s) (hb : stB1 fs mn s = false) :
    Calls Tryz.prog 5 #[PV ca fs.length cc mn, stv fv tv ov s, .int .i64 few, .int .i64 more] W fun r w' => r = .returned (.bool true) ∧ Below W.heap.size W w' := by
  obtain ⟨w1, hw1⟩ : ∃ w1, (W.alloc (.cells #[.slice ca fs.length cc, .int .i64 mn] 24)).alloc (stb fv tv ov s) = w1 := ⟨_, rfl⟩
  have E1 : Below W.heap.size W w1 := by rw [← hw1]; exact ext_alloc (ext_alloc (Below.refl _ _) _) _
  have g0 : w1.heap[W.heap.size]? = some (.cells #[.slice ca fs.length cc, .int .i64 mn] 24) := by
    rw [← hw1]; exact blk_below (ext_alloc (Below.refl _ _) _) (heap_new _ _)
  have g1 : w1.heap[W.heap.size + 1]? = some (stb fv tv ov s) := by rw [← hw1]; simpa using heap_new (W.alloc _) _
  obtain ⟨z, hz⟩ : ∃ z : Option Addr, z = none := ⟨_, rfl⟩
  obtain ⟨i, hi⟩ : ∃ i : Int, i = 0 := ⟨_, rfl⟩
  obtain ⟨t, ht⟩ : ∃ t : ByteArray, t = ⟨#[]⟩ := ⟨_, rfl⟩
  have q1 : ∀ u, Below w1.heap.size w1 u → ∀ fuel : Int, Calls Tryz.prog 12 #[PV ca fs.length cc mn, stv fv tv ov s, .int .i64 fuel] u (fun r w' => r = .returned (.tuple #[.agg #[.slice z 0 0, .slice z 0 0, .slice z 0 0, .int .i64 i, .int .i64 i, .int .i64 i, .int .i64 i, .int .i64 i, .string t], .int .i64 2]) ∧ Below u.heap.size u w') := fun u hu fuel => by
    rw [hz, hi, ht]
    exact go_bad u ((hF.at E1).at hu) ((hS.at E1).at hu) hb
  clear hz hi ht
  have q2 : ∀ u, Below w1.heap.size w1 u → Calls Tryz.prog 6 #[PV ca fs.length cc mn, stv fv tv ov s] u _ := fun u hu => mmay_any u ((hF.at E1).at hu) ((hS.at E1).at hu)
  rw [hb] at q2
  obtain ⟨fa, fc, rfl, _, _⟩ := hS.f
  obtain ⟨ta, tc, rfl, _, _⟩ := hS.t
  obtain ⟨oa, oc, rfl, _, _⟩ := hS.o
  obtain ⟨nf, hnf⟩ : ∃ n, fs.length = n := ⟨_, rfl⟩
  obtain ⟨n1, hn1⟩ : ∃ n, s.fr.length = n := ⟨_, rfl⟩
  obtain ⟨n2, hn2⟩ : ∃ n, s.tb.length = n := ⟨_, rfl⟩
  obtain ⟨n3, hn3⟩ : ∃ n, s.out.length = n := ⟨_, rfl⟩
  rw [hnf] at q1 q2 g0 hw1 ⊢
  rw [hn1, hn2, hn3] at q1 q2 g1 hw1 ⊢
  clear hF hS hnf hn1 hn2 hn3
  have hC : ∀ u, Below w1.heap.size w1 u → (u.cell? ⟨W.heap.size, 0, none⟩ = some (.slice ca nf cc) ∧ u.cell? ⟨W.heap.size, 1, none⟩ = some (.int .i64 mn)) ∧ u.cell? ⟨W.heap.size + 1, 0, none⟩ = some (.slice fa n1 fc) ∧ u.cell? ⟨W.heap.size + 1, 1, none⟩ = some (.slice ta n2 tc) ∧ u.cell? ⟨W.heap.size + 1, 2, none⟩ = some (.slice oa n3 oc) ∧ u.cell? ⟨W.heap.size + 1, 3, none⟩ = some (.int .i64 s.st) ∧ u.cell? ⟨W.heap.size + 1, 4, none⟩ = some (.int .i64 s.en) ∧ u.cell? ⟨W.heap.size + 1, 5, none⟩ = some (.int .i64 s.er) ∧ u.cell? ⟨W.heap.size + 1, 6, none⟩ = some (.int .i64 s.la.k) ∧ u.cell? ⟨W.heap.size + 1, 7, none⟩ = some (.int .i64 s.la.n) ∧ u.cell? ⟨W.heap.size + 1, 8, none⟩ = some (.string s.la.s) := fun u hu => ⟨⟨cellB hu (cell_block g0 rfl), cellB hu (cell_block g0 rfl)⟩, nine (blk_below hu g1)⟩
  obtain ⟨⟨a0, a1⟩, b0, b1, b2, b3, b4, b5, b6, b7, b8⟩ := hC w1 (Below.refl _ _)
  replace hC : Hid _ := hC
  replace q1 : Hid _ := q1
  replace q2 : Hid _ := q2
  clear g0 g1
  have d1 : decide ((few : Int) < 0) = false := by simp
  have d2 : decide ((more : Int) < few) = false := by simp; omega
  have d3 : decide ((4000 : Int) < more) = false := by simp; omega
  go_enter Tryz.func5, Tryz.ntmps5
  go_wp2_with (go_at_call 12; refine (q1.out _ (Below.refl _ _) _).mono ?_; rintro e u1 ⟨rfl, hb1⟩; refine Hid.out ?_)
  refine Lib.hid ?_
  clear a0 a1 b0 b1 b2 b3 b4 b5 b6 b7 b8
  obtain ⟨v1, hv1⟩ : ∃ v, u1.alloc (.cells #[.slice z 0 0, .slice z 0 0, .slice z 0 0, .int .i64 i, .int .i64 i, .int .i64 i, .int .i64 i, .int .i64 i, .string t] 32) = v := ⟨_, rfl⟩
  have F1 : Below w1.heap.size w1 v1 := by rw [← hv1]; exact ext_alloc hb1 _
  obtain ⟨⟨a0, a1⟩, b0, b1, b2, b3, b4, b5, b6, b7, b8⟩ := hC.out v1 F1
  go_wp2_with (go_at_call 12; refine (q1.out _ F1 _).mono ?_; rintro e u2 ⟨rfl, hb2⟩; refine Hid.out ?_)
  refine Lib.hid ?_
  clear a0 a1 b0 b1 b2 b3 b4 b5 b6 b7 b8 hv1
  obtain ⟨v2, hv2⟩ : ∃ v, u2.alloc (.cells #[.slice z 0 0, .slice z 0 0, .slice z 0 0, .int .i64 i, .int .i64 i, .int .i64 i, .int .i64 i, .int .i64 i, .string t] 32) = v := ⟨_, rfl⟩
  have F2 : Below w1.heap.size w1 v2 := by rw [← hv2]; exact ext_alloc (ext_trans F1 hb2) _
  obtain ⟨⟨a0, a1⟩, b0, b1, b2, b3, b4, b5, b6, b7, b8⟩ := hC.out v2 F2
  go_wp2_with (go_at_call 6; refine (q2.out _ F2).mono ?_; rintro e u3 ⟨rfl, hb3⟩)
  go_ret
  exact ⟨rfl, ext_trans E1 (ext_trans F2 hb3)⟩
set_option maxRecDepth 100000 in
set_option maxHeartbeats 8000000 in
theorem parts_ok {ca : Option Addr} {cc : Nat} {fs : List Fd} {mn : Int} (few more : Nat) (hfm : few ≤ more) (hm : more ≤ 4000) {fv tv ov : Value} {s : GS} (W : World) (hT : PTab W) (hF : RowF W.heap.size W ca fs) (hS : StIn W.heap.size W fv tv ov s.1) (hb : stB1 fs mn s.1 = true) :
    Calls Tryz.prog 5 #[PV ca fs.length cc mn, stv fv tv ov s.1, .int .i64 few, .int .i64 more] W fun r w' => r = .returned (.bool true) ∧ Below W.heap.size W w' := by
  obtain ⟨F, hOp⟩ := opF_ex
  obtain ⟨hp, hg⟩ := stB1_iff.1 hb
  obtain ⟨w1, hw1⟩ : ∃ w1, (W.alloc (.cells #[.slice ca fs.length cc, .int .i64 mn] 24)).alloc (stb fv tv ov s.1) = w1 := ⟨_, rfl⟩
  have E1 : Below W.heap.size W w1 := by rw [← hw1]; exact ext_alloc (ext_alloc (Below.refl _ _) _) _
  have g0 : w1.heap[W.heap.size]? = some (.cells #[.slice ca fs.length cc, .int .i64 mn] 24) := by
    rw [← hw1]; exact blk_below (ext_alloc (Below.refl _ _) _) (heap_new _ _)
  have g1 : w1.heap[W.heap.size + 1]? = some (stb fv tv ov s.1) := by rw [← hw1]; simpa using heap_new (W.alloc _) _
  obtain ⟨x, hx⟩ : ∃ x, goT F fs few s = x := ⟨_, rfl⟩
  obtain ⟨y, hy⟩ : ∃ y, goT F fs more s = y := ⟨_, rfl⟩
  have hxy : goT F fs more x = y := by rw [← hx, goT_parts F fs hfm, hy]
  have hbx : stB1 fs mn x.1 = true := stB1_iff.2 ⟨hp, by rw [← hx]; exact goP_good hOp hp (by omega) _ _ hg⟩
  have q1 : ∀ u, Below w1.heap.size w1 u → Calls Tryz.prog 12 #[PV ca fs.length cc mn, stv fv tv ov s.1, .int .i64 few] u _ := fun u hu => go_ok hOp (fuel := few) (by omega) u (hT.on (ext_trans E1 hu)) ((hF.at E1).at hu) ((hS.at E1).at hu) hb x.1 (by rw [hx])
  have q2 : ∀ u, Below w1.heap.size w1 u → Calls Tryz.prog 12 #[PV ca fs.length cc mn, stv fv tv ov s.1, .int .i64 more] u _ := fun u hu => go_ok hOp (fuel := more) (by omega) u (hT.on (ext_trans E1 hu)) ((hF.at E1).at hu) ((hS.at E1).at hu) hb y.1 (by rw [hy])
  have q3 : ∀ (a b c : Value) (u : World), Below w1.heap.size w1 u → StIn u.heap.size u a b c x.1 → Calls Tryz.prog 12 #[PV ca fs.length cc mn, stv a b c x.1, .int .i64 more] u _ := fun a b c u hu hI => go_ok hOp (fuel := more) (by omega) u (hT.on (ext_trans E1 hu)) ((hF.at E1).at hu) hI hbx y.1 (by rw [hxy])
  have q4 : ∀ (a b c : Value) (u : World), Below w1.heap.size w1 u → StIn u.heap.size u a b c x.1 → Calls Tryz.prog 6 #[PV ca fs.length cc mn, stv a b c x.1] u _ := fun a b c u hu hI => mmay_any u ((hF.at E1).at hu) hI
  rw [hbx] at q4
  have q5 : ∀ (a b c a' b' c' : Value) (u : World), StIn u.heap.size u a b c y.1 → StIn u.heap.size u a' b' c' y.1 → Calls Tryz.prog 14 #[stv a b c y.1, stv a' b' c' y.1] u _ := fun a b c a' b' c' u h h' => same_any a b c a' b' c' y.1 u h h'
  have sx : ∀ {lo : Nat} {W : World} {F fc T tc U uc : Nat} {fw : List Fw} {tw : List Tw}, FS lo W F fc T tc U uc fw tw x.1 → _ := fun h => h.stin
  have sy : ∀ {lo : Nat} {W : World} {F fc T tc U uc : Nat} {fw : List Fw} {tw : List Tw}, FS lo W F fc T tc U uc fw tw y.1 → _ := fun h => h.stin
  obtain ⟨fa, fc, rfl, _, _⟩ := hS.f
  obtain ⟨ta, tc, rfl, _, _⟩ := hS.t
  obtain ⟨oa, oc, rfl, _, _⟩ := hS.o
  obtain ⟨nf, hnf⟩ : ∃ n, fs.length = n := ⟨_, rfl⟩
  obtain ⟨n1, hn1⟩ : ∃ n, s.1.fr.length = n := ⟨_, rfl⟩
  obtain ⟨n2, hn2⟩ : ∃ n, s.1.tb.length = n := ⟨_, rfl⟩
  obtain ⟨n3, hn3⟩ : ∃ n, s.1.out.length = n := ⟨_, rfl⟩
  obtain ⟨x1, hx1⟩ : ∃ n, x.1.fr.length = n := ⟨_, rfl⟩
  obtain ⟨x2, hx2⟩ : ∃ n, x.1.tb.length = n := ⟨_, rfl⟩
  obtain ⟨x3, hx3⟩ : ∃ n, x.1.out.length = n := ⟨_, rfl⟩
  obtain ⟨y1, hy1⟩ : ∃ n, y.1.fr.length = n := ⟨_, rfl⟩
  obtain ⟨y2, hy2⟩ : ∃ n, y.1.tb.length = n := ⟨_, rfl⟩
  obtain ⟨y3, hy3⟩ : ∃ n, y.1.out.length = n := ⟨_, rfl⟩
  rw [hnf] at q1 q2 q3 q4 g0 hw1 ⊢
  rw [hn1, hn2, hn3] at q1 q2 g1 hw1 ⊢
  rw [hx1, hx2, hx3] at q1 sx
  rw [hy1, hy2, hy3] at q2 q3 sy
  obtain ⟨X, hX⟩ : ∃ X, x.1 = X := ⟨_, rfl⟩
  obtain ⟨Z, hZ⟩ : ∃ Z, y.1 = Z := ⟨_, rfl⟩
  obtain ⟨S, hSS⟩ : ∃ S, s.1 = S := ⟨_, rfl⟩
  rw [hX] at q1 q3 q4 sx
  rw [hZ] at q2 q3 q5 sy
  rw [hSS] at q1 q2 g1 hw1 ⊢
  clear hF hS hnf hn1 hn2 hn3 hb hbx hp hg hx hy hxy hx1 hx2 hx3 hy1 hy2 hy3 hX hZ hSS hOp
  have hC : ∀ u, Below w1.heap.size w1 u → (u.cell? ⟨W.heap.size, 0, none⟩ = some (.slice ca nf cc) ∧ u.cell? ⟨W.heap.size, 1, none⟩ = some (.int .i64 mn)) ∧ u.cell? ⟨W.heap.size + 1, 0, none⟩ = some (.slice fa n1 fc) ∧ u.cell? ⟨W.heap.size + 1, 1, none⟩ = some (.slice ta n2 tc) ∧ u.cell? ⟨W.heap.size + 1, 2, none⟩ = some (.slice oa n3 oc) ∧ u.cell? ⟨W.heap.size + 1, 3, none⟩ = some (.int .i64 S.st) ∧ u.cell? ⟨W.heap.size + 1, 4, none⟩ = some (.int .i64 S.en) ∧ u.cell? ⟨W.heap.size + 1, 5, none⟩ = some (.int .i64 S.er) ∧ u.cell? ⟨W.heap.size + 1, 6, none⟩ = some (.int .i64 S.la.k) ∧ u.cell? ⟨W.heap.size + 1, 7, none⟩ = some (.int .i64 S.la.n) ∧ u.cell? ⟨W.heap.size + 1, 8, none⟩ = some (.string S.la.s) := fun u hu => ⟨⟨cellB hu (cell_block g0 rfl), cellB hu (cell_block g0 rfl)⟩, nine (blk_below hu g1)⟩
  obtain ⟨⟨a0, a1⟩, b0, b1, b2, b3, b4, b5, b6, b7, b8⟩ := hC w1 (Below.refl _ _)
  replace hC : Hid _ := hC
  replace q1 : Hid _ := q1
  replace q2 : Hid _ := q2
  replace q3 : Hid _ := q3
  replace q4 : Hid _ := q4
  replace q5 : Hid _ := q5
  clear g0 g1
  have d1 : decide ((few : Int) < 0) = false := by simp
  have d2 : decide ((more : Int) < few) = false := by simp; omega
  have d3 : decide ((4000 : Int) < more) = false := by simp; omega
  go_enter Tryz.func5, Tryz.ntmps5
  go_wp2_with (go_at_call 12; refine (q1.out _ (Below.refl _ _)).mono ?_; rintro e u1 ⟨F1, f1, T1, t1, U1, p1, fw1, tw1, rfl, hX1, hb1⟩; refine Hid.out ?_)
  refine Lib.hid ?_
  clear a0 a1 b0 b1 b2 b3 b4 b5 b6 b7 b8
  have sx1 := sx hX1
  clear hw1 hX1
  obtain ⟨v1, hv1⟩ : ∃ v, u1.alloc (stb (.slice (some ⟨F1, 0, none⟩) x1 f1) (.slice (some ⟨T1, 0, none⟩) x2 t1) (.slice (some ⟨U1, 0, none⟩) x3 p1) X) = v := ⟨_, rfl⟩
  have Q1 : Below u1.heap.size u1 v1 := by rw [← hv1]; exact ext_alloc (Below.refl _ _) _
  have P1 : Below w1.heap.size w1 v1 := ext_trans hb1 Q1
  have G1 : v1.heap[u1.heap.size]? = some (stb (.slice (some ⟨F1, 0, none⟩) x1 f1) (.slice (some ⟨T1, 0, none⟩) x2 t1) (.slice (some ⟨U1, 0, none⟩) x3 p1) X) := by rw [← hv1]; exact heap_new _ _
  obtain ⟨⟨a0, a1⟩, b0, b1, b2, b3, b4, b5, b6, b7, b8⟩ := hC.out v1 P1
  go_wp2_with (go_at_call 12; refine (q2.out _ P1).mono ?_; rintro e u2 ⟨F2, f2, T2, t2, U2, p2, fw2, tw2, rfl, hY2, hb2⟩; refine Hid.out ?_)
  refine Lib.hid ?_
  clear a0 a1 b0 b1 b2 b3 b4 b5 b6 b7 b8 hv1
  have sy2 := sy hY2
  clear hY2
  obtain ⟨v2, hv2⟩ : ∃ v, u2.alloc (stb (.slice (some ⟨F2, 0, none⟩) y1 f2) (.slice (some ⟨T2, 0, none⟩) y2 t2) (.slice (some ⟨U2, 0, none⟩) y3 p2) Z) = v := ⟨_, rfl⟩
  have Q2 : Below u2.heap.size u2 v2 := by rw [← hv2]; exact ext_alloc (Below.refl _ _) _
  have P2 : Below w1.heap.size w1 v2 := ext_trans (ext_trans P1 hb2) Q2
  have G2 : v2.heap[u2.heap.size]? = some (stb (.slice (some ⟨F2, 0, none⟩) y1 f2) (.slice (some ⟨T2, 0, none⟩) y2 t2) (.slice (some ⟨U2, 0, none⟩) y3 p2) Z) := by rw [← hv2]; exact heap_new _ _
  have K2 : Below v1.heap.size v1 v2 := ext_trans hb2 Q2
  have sx2 := sx1.at (ext_trans Q1 K2)
  have sy2' := sy2.at Q2
  obtain ⟨⟨a0, a1⟩, _⟩ := hC.out v2 P2
  obtain ⟨b0, b1, b2, b3, b4, b5, b6, b7, b8⟩ := nine (blk_below K2 G1)
  have c3 := fun u hu => q3.out _ _ _ u (ext_trans P2 hu) (sx2.at hu)
  replace c3 : Hid _ := c3
  go_wp2_with (go_at_call 12; refine (c3.out _ (Below.refl _ _)).mono ?_; rintro e u3 ⟨F3, f3, T3, t3, U3, p3, fw3, tw3, rfl, hY3, hb3⟩; refine Hid.out ?_)
  refine Lib.hid ?_
  clear a0 a1 b0 b1 b2 b3 b4 b5 b6 b7 b8 hv2
  have sy3 := sy hY3
  clear hY3
  obtain ⟨v3, hv3⟩ : ∃ v, u3.alloc (stb (.slice (some ⟨F3, 0, none⟩) y1 f3) (.slice (some ⟨T3, 0, none⟩) y2 t3) (.slice (some ⟨U3, 0, none⟩) y3 p3) Z) = v := ⟨_, rfl⟩
  have Q3 : Below u3.heap.size u3 v3 := by rw [← hv3]; exact ext_alloc (Below.refl _ _) _
  have P3 : Below w1.heap.size w1 v3 := ext_trans (ext_trans P2 hb3) Q3
  have G3 : v3.heap[u3.heap.size]? = some (stb (.slice (some ⟨F3, 0, none⟩) y1 f3) (.slice (some ⟨T3, 0, none⟩) y2 t3) (.slice (some ⟨U3, 0, none⟩) y3 p3) Z) := by rw [← hv3]; exact heap_new _ _
  have K3 : Below v2.heap.size v2 v3 := ext_trans hb3 Q3
  have c4 := fun u hu => q4.out _ _ _ u (ext_trans P3 hu) ((sx2.at K3).at hu)
  have c5 := fun u hu => q5.out _ _ _ _ _ _ u ((sy3.at Q3).at hu) ((sy2'.at K3).at hu)
  replace c4 : Hid _ := c4
  replace c5 : Hid _ := c5
  obtain ⟨⟨a0, a1⟩, _⟩ := hC.out v3 P3
  obtain ⟨b0, b1, b2, b3, b4, b5, b6, b7, b8⟩ := nine (blk_below (ext_trans K2 K3) G1)
  go_wp2_with (go_at_call 6; refine (c4.out _ (Below.refl _ _)).mono ?_; rintro e u4 ⟨rfl, hb4⟩; refine Hid.out ?_)
  refine Lib.hid ?_
  clear a0 a1 b0 b1 b2 b3 b4 b5 b6 b7 b8 hv3
  obtain ⟨b0, b1, b2, b3, b4, b5, b6, b7, b8⟩ := nine (blk_below hb4 G3)
  obtain ⟨e0, e1, e2, e3, e4, e5, e6, e7, e8⟩ := nine (blk_below (ext_trans K3 hb4) G2)
  go_wp2_with (go_at_call 14; refine (c5.out _ hb4).mono ?_; rintro e u5 ⟨rfl, hb5⟩)
  go_ret
  exact ⟨rfl, ext_trans E1 (ext_trans P3 (ext_trans hb4 hb5))⟩
/-- THE LAW. -/
theorem parts_any {ca : Option Addr} {cc : Nat} {fs : List Fd} {mn : Int} (few more : Int) {fv tv ov : Value} {s : St} (W : World) (hT : PTab W) (hF : RowF W.heap.size W ca fs) (hS : StIn W.heap.size W fv tv ov s) :
    Calls Tryz.prog 5 #[PV ca fs.length cc mn, stv fv tv ov s, .int .i64 few, .int .i64 more] W fun r w' => r = .returned (.bool true) ∧ Below W.heap.size W w' := by
  by_cases h : few < 0 ∨ more < few ∨ 4000 < more
  · obtain ⟨fa, fc, e1, _⟩ := hS.f
    obtain ⟨ta, tc, e2, _⟩ := hS.t
    obtain ⟨oa, oc, e3, _⟩ := hS.o
    exact parts_idle _ _ _ _ s W few more ca _ cc mn rfl fa ta oa _ _ _ fc tc oc e1 e2 e3 h
  · obtain ⟨a, rfl⟩ : ∃ n : Nat, few = n := ⟨few.toNat, by omega⟩
    obtain ⟨b, rfl⟩ : ∃ n : Nat, more = n := ⟨more.toNat, by omega⟩
    cases hb : stB1 fs mn s
    · exact parts_bad a b (by omega) (by omega) W hF hS hb
    · exact parts_ok (s := ⟨s, (stB1_iff.1 hb).2.s1⟩) a b (by omega) (by omega) W hT hF hS hb
end Go.Proofs.YthdhgfpidhbdiaaGreatDoor
