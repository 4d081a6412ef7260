/- The program's reader: an index, arguments. The program's reader: arguments. The document's Look, in memory; the next number. The document's Look: a fault; the innermost local of a name; the first function of a name. The document's Look: the innermost local of a name; the first function of a name. -/
import Derived.Test.YtnnppenlfocgiaaGreatDoorK12
import Derived.Test.YtnnppenlfocgiaaGreatDoorK08
namespace Go.Proofs.YtnnppenlfocgiaaGreatDoor
open Go.RowKit
open Go

def SufC (f : Nat) : Prop := ∀ (x : Nd) (b : Option Addr) (cap : Nat) (D : Nat → Prop) (r : PRes) (B : Nat) (ts : List Tok) (i : Nat) (w : World), Ctx w B ts i → NdV D w x (ndv x b cap) → (∀ g, D g → g ≠ B) → P f 5 x 0 (rest ts i) = some r → Calls Tryz.prog 132 #[.pointer (some ⟨B, 0, none⟩), ndv x b cap] w (PAns D w B ts r)
theorem res156 {tm : Array Value} {W : World} {B : Nat} {a b c d : Value} (h : tm[4]?.getD undef = .pointer (some ⟨B, 0, none⟩)) (hx : W.heap[B]? = some (.cells #[a, b, c, d] 24)) : (results Tryz.f132 tm).run Tryz.prog W = .ok (.agg #[a, b, c, d]) W := by
  obtain ⟨c0, c1, c2, c3, _, _, _, _⟩ := in4 hx
  simp [results, Tryz.results132, go_sem, h, c0, c1, c2, c3]
theorem pl_lb : plainS S.lb := ⟨_, _, rfl, rfl⟩
theorem pl_rb : plainS S.rb := ⟨_, _, rfl, rfl⟩
theorem pl_lp : plainS S.lp := ⟨_, _, rfl, rfl⟩
theorem pl_rp : plainS S.rp := ⟨_, _, rfl, rfl⟩
theorem pl_cm : plainS S.cm := ⟨_, _, rfl, rfl⟩
theorem below2 (w : World) (o1 o2 : Obj) : Below w.heap.size w ((w.alloc o1).alloc o2) := ext_alloc (ext_alloc (Below.refl _ _) _) _
theorem new2 (w : World) (o1 o2 : Obj) : ((w.alloc o1).alloc o2).heap[w.heap.size]? = some o1 ∧ ((w.alloc o1).alloc o2).heap[w.heap.size + 1]? = some o2 := ⟨block_alloc _ (alloc_new w o1), by have := alloc_new (w.alloc o1) o2; rwa [World.size_alloc] at this⟩
theorem on_some {x : PR} {g : Nd → List PT → PR} {r : PRes} (h : x.on g = some r) : ∃ r0, x = some r0 ∧ ((∃ l, r0 = .inl l ∧ r = .inl l) ∨ ∃ n l, r0 = .inr (n, l) ∧ g n l = some r) := by
  cases x with
  | none => cases h
  | some r0 =>
    refine ⟨r0, rfl, ?_⟩
    rcases r0 with l | ⟨n, l⟩
    · exact .inl ⟨l, rfl, (Option.some.inj h).symm⟩
    · exact .inr ⟨n, l, rfl, h⟩
theorem need_some {s : List UInt8} {l : List PT} {g : List PT → PR} {r : PRes} (h : need s l g = some r) : (tx l = s ∧ g l.tail = some r) ∨ (¬ tx l = s ∧ r = .inl l) := by
  unfold need at h
  split at h
  · exact .inl ⟨by assumption, h⟩
  · exact .inr ⟨by assumption, (Option.some.inj h).symm⟩
set_option maxRecDepth 20000 in
set_option maxHeartbeats 4000000 in
theorem suf_index (f : Nat) (hE : ExprC f) (x : Nd) (b : Option Addr) (cap : Nat) (D : Nat → Prop) (r : PRes) (B : Nat) (ts : List Tok) (i : Nat) (w : World) (hC : Ctx w B ts i) (hx : NdV D w x (ndv x b cap)) (hS : ∀ g, D g → g ≠ B) (hlb : tx (rest ts i) = S.lb)
    (hP : (P f 0 nil0 0 (rest ts i).tail).on (fun y l => need S.rb l fun l => .ok (nd 20 [x, y]) l) = some r) : Calls Tryz.prog 132 #[.pointer (some ⟨B, 0, none⟩), ndv x b cap] w (PAns D w B ts r) := by
  obtain ⟨h3, h4⟩ := new2 w (nbx x b cap) zbx
  have hT := hC.takes_yes pl_lb hlb _ (below2 w (nbx x b cap) zbx)
  have hBw := hC.R.lt
  have hk0 : Keeps (fun k => k = B) w ((w.alloc (nbx x b cap)).alloc zbx) := Keeps.of_below (below2 w (nbx x b cap) zbx)
  rw [rest_tail] at hP
  obtain ⟨r0, hr0, hr⟩ := on_some hP
  have hEE := fun u h => hE r0 B ts (i + 1) u h hr0
  replace hr : Hid _ := hr
  clear hP hr0
  go_enter Tryz.func132, Tryz.ntmps132
  go_wp2_with (go_at_call 85; refine hT.mono ?_; rintro e w1 ⟨rfl, hR1, hk1⟩)
  have g3 := (hk1.block _ (block_lt h3) (by omega)).trans h3
  have g4 := (hk1.block _ (block_lt h4) (by omega)).trans h4
  obtain ⟨c0, c1, c2, c3, f0, f1, f2, f3⟩ := in4 g3
  have hk01 := hk0.trans hk1
  have hz1 : w.heap.size + 1 < w1.heap.size := block_lt g4
  have hCx := hC.on hR1
  have hx1 := hx.keep hk01 (fun g hg _ => hS g hg)
  clear hT hk0 hk1 h3 h4
  go_region_with ((go_at_call 130; refine (hEE _ (hCx.below ((Below.refl _ _).drew))).mono ?_; intro e w2 hA; rcases r0 with l1 | ⟨n1, l1⟩; (obtain ⟨j, hj, hle, rfl, hk2⟩ := hA; rcases hr.out with ⟨l, e1, e2⟩ | ⟨n, l, e1, _⟩; (cases e1; subst e2; exact ⟨rfl, j, hj, hle, rfl, (hk01.drew).trans hk2⟩); cases e1); obtain ⟨j, b1, cap1, hj, rfl, hN1, hR2, hk2⟩ := hA; have g3 := (hk2.block _ (block_lt g3) (by omega)).trans g3; have g4 := (hk2.block _ (block_lt g4) (by omega)).trans g4; obtain ⟨c0, c1, c2, c3, f0, f1, f2, f3⟩ := in4 g3; obtain ⟨d0, d1, d2, d3, e0, e1, e2, e3⟩ := in4a g3))
  all_goals
    rcases hr.out with ⟨l, e1, _⟩ | ⟨n, l, e1, hr2⟩
    · cases e1
    cases e1
    clear hr c0 c1 c2 c3 f0 f1 f2 f3 d0 d1 d2 d3 e0 e1 e2 e3 hEE hE
    have hx2 : NdV (fun g => (D g ∨ w.heap.size ≤ g) ∧ g ≠ w.heap.size ∧ g ≠ w.heap.size + 1) w2 x (ndv x b cap) := ((hx.weak (S' := fun g => D g ∧ g < w.heap.size) (fun g hg hlt => ⟨hg, hlt⟩)).keep ((hk01.drew).trans hk2) (fun g hg _ => hS g hg.1)).weak (fun g hg _ => ⟨.inl hg.1, by omega, by omega⟩)
    have hy2 : NdV (fun g => (D g ∨ w.heap.size ≤ g) ∧ g ≠ w.heap.size ∧ g ≠ w.heap.size + 1) w2 n1 (ndv n1 b1 cap1) := hN1.weak (fun g hg _ => by simp at hg; refine ⟨.inr (by omega), by omega, by omega⟩)
    obtain ⟨W3, hW3⟩ : ∃ W3, put4 (w2.alloc (.cells #[.int .i64 x.k, sk x.t, .int .i64 x.n, .slice b x.kids.length cap, .int .i64 n1.k, sk n1.t, .int .i64 n1.n, .slice b1 n1.kids.length cap1] 24)) w.heap.size (.int .i64 20) (sk []) (.int .i64 0) (.slice (some ⟨w2.heap.size, 0, none⟩) 2 2) = W3 := ⟨_, rfl⟩
    have hz2 : w1.heap.size ≤ w2.heap.size := hk2.size
    obtain ⟨hN3, q3, hk3⟩ := pair_box 20 0 hx2 hy2 (fun g hg => hg.2.1) ⟨.inr (by omega), by omega, by omega⟩ g3 hW3
    have q4 := (hk3.block _ (block_lt g4) (by omega)).trans g4
    have hR3 := hR2.keep hk3 (fun g hg => by omega)
    have hkw := ((hk01.drew).trans hk2).then hk3 (fun j hj e => by omega)
    dsimp only [put4] at hW3
    rw [hW3]
    clear hW3 hx2 hy2 hk3 hk2 hk01 hx1 g3 g4 hR2 hN1 hCx hR1 hx
    have hC3 := hC.on hR3
    rw [← hj] at hr2
    clear hR3
    refine Lib.hid ?_
    rcases need_some hr2 with ⟨hy, hr3⟩ | ⟨hy, rfl⟩
    · rw [rest_tail] at hr3
      have hWt := hC3.wants_yes pl_rb hy W3 (Below.refl _ _)
      replace hr3 : Hid _ := hr3
      clear hr2
      go_wp2_with (go_at_call 82; refine hWt.mono ?_; rintro e w4 ⟨rfl, hR4, hk4⟩; have p3 := (hk4.block _ (block_lt q3) (by omega)).trans q3; have p4 := (hk4.block _ (block_lt q4) (by omega)).trans q4; obtain ⟨c0, c1, c2, c3, f0, f1, f2, f3⟩ := in4 p3; obtain ⟨d0, d1, d2, d3, e0, e1, e2, e3⟩ := in4 p4)
      refine bodyPost_ret (res156 rfl (put4_same _ _ _ _ p4)) rfl ?_
      obtain rfl := Option.some.inj hr3.out
      exact close_ret rfl ((hN3.keep hk4 (fun g hg _ => by rcases hg.1 with h | h; exact hS g h; omega)).weak (fun g hg _ => ⟨hg.1, hg.2.2⟩)) hR4 (hkw.trans hk4) (by omega) hBw
    · have hWt := hC3.wants_no pl_rb hy W3 (Below.refl _ _)
      clear hr2
      go_wp2_with (go_at_call 82; refine hWt.mono ?_; rintro e w4 ⟨rfl, hb4⟩)
      exact ⟨rfl, close_pan hj hC3.R.le (hkw.trans (Keeps.of_below hb4))⟩
end Go.Proofs.YtnnppenlfocgiaaGreatDoor
namespace Go.Proofs.YtnnppenlfocgiaaGreatDoor
open Go.RowKit
open Go

theorem info24 : (Tryz.prog.info? 24).map (fun i => (i.zero, i.size, i.bytes)) = some (some (.agg #[.int .i64 0, .string ⟨#[]⟩, .int .i64 0, .slice none 0 0]), 4, 56) := by kernel_rfl
/-- Is it the word? -/
theorem Ctx.sees1 {w : World} {B : Nat} {ts : List Tok} {i : Nat} (h : Ctx w B ts i) {s : List UInt8} (hs : plainS s) (u : World) (hb : Below w.heap.size w u) : Calls Tryz.prog 84 #[.pointer (some ⟨B, 0, none⟩), .slice (some ⟨u.heap.size, 0, none⟩) 1 1] (u.alloc (.cells #[sk s] 9)) fun e w' => e = .returned (.bool (decide (tx (rest ts i) = s))) ∧ Below u.heap.size u w' := by
  have := sees_any B ts i u.heap.size [⟨s.toArray⟩] (by simp) 1 _ (h.R.below (ext_alloc hb _)) (alloc_new u _)
  rw [contains1] at this
  rw [show decide (tx (rest ts i) = s) = decide (wd ts i = s) from decide_eq_decide.2 (h.is hs).symm]
  refine this.mono ?_
  rintro e w1 ⟨rfl, hb1⟩
  exact ⟨rfl, ext_trans (ext_alloc (Below.refl _ _) _) hb1⟩
theorem Ctx.sees2 {w : World} {B : Nat} {ts : List Tok} {i : Nat} (h : Ctx w B ts i) {s s2 : List UInt8} (hs : plainS s) (hs2 : plainS s2) (u : World) (hb : Below w.heap.size w u) : Calls Tryz.prog 84 #[.pointer (some ⟨B, 0, none⟩), .slice (some ⟨u.heap.size, 0, none⟩) 2 2] (u.alloc (.cells #[sk s, sk s2] 9)) fun e w' => e = .returned (.bool (decide (tx (rest ts i) = s ∨ tx (rest ts i) = s2))) ∧ Below u.heap.size u w' := by
  have := sees_any B ts i u.heap.size [⟨s.toArray⟩, ⟨s2.toArray⟩] (by simp) 2 _ (h.R.below (ext_alloc hb _)) (alloc_new u _)
  rw [contains2] at this
  rw [show decide (tx (rest ts i) = s ∨ tx (rest ts i) = s2) = decide (wd ts i = s ∨ wd ts i = s2) from decide_eq_decide.2 (by rw [h.is hs, h.is hs2])]
  refine this.mono ?_
  rintro e w1 ⟨rfl, hb1⟩
  exact ⟨rfl, ext_trans (ext_alloc (Below.refl _ _) _) hb1⟩

/-- Something is read. -/
theorem P_room {f tag : Nat} {x : Nd} {a : Nat} {l : List PT} {n : Nd} {l1 : List PT} (ht : tag ≤ 12) (h : P f tag x a l = some (.inr (n, l1))) : l1.length < room tag l := by
  obtain ⟨r, h1, h2⟩ := tot_all (16 * l.length + rank tag a) tag x a l ht (Nat.le_refl _)
  have := Q_det ⟨f, h⟩ ⟨_, h1⟩
  exact h2 n l1 this.symm
theorem room_of {f : Nat} {x : Nd} {a : Nat} {ts : List Tok} {j j2 : Nat} {n : Nd} {l1 : List PT} (h : Hid (P f 0 x a (rest ts j) = some (.inr (n, l1)))) (hj : rest ts j2 = l1) : j < j2 := by
  have := P_room (by omega) h.out
  rw [← hj] at this
  simp only [room, rest_len] at this
  omega
/-- Between two arguments. -/
def ArgI (D : Nat → Prop) (f : Nat) (w : World) (B : Nat) (ts : List Tok) (r : PRes) (k : Nat) (m : Value) (wr : World) : Prop :=
  ∃ (more : Bool) (ks : List Nd) (j : Nat) (b : Option Addr) (cap : Nat), m = .bool more ∧ wr.heap[w.heap.size]? = some (nbx (nd 21 ks) b cap) ∧ wr.heap[w.heap.size + 1]? = some zbx ∧
    Row (fun g => (D g ∨ w.heap.size ≤ g) ∧ g ≠ w.heap.size ∧ g ≠ w.heap.size + 1) wr (.slice b ks.length cap) ks ∧ (∀ q, Value.ownBlock (.slice b ks.length cap) = some q → w.heap.size ≤ q) ∧ Rd wr B ts j ∧ Keeps (fun k => k = B) w wr ∧ ks.length ≤ j ∧
    (if more then k ≤ f ∧ P k 6 (nd 21 ks) 0 (rest ts j) = some r else need S.rp (rest ts j) (fun l => .ok (nd 21 ks) l) = some r)

set_option maxRecDepth 20000 in
set_option maxHeartbeats 4000000 in
theorem suf_args (f : Nat) (hE : ∀ g, g ≤ f → ExprC g) (x : Nd) (b : Option Addr) (cap : Nat) (D : Nat → Prop) (r : PRes) (B : Nat) (ts : List Tok) (i : Nat) (w : World) (hC : Ctx w B ts i) (hx : NdV D w x (ndv x b cap)) (hS : ∀ g, D g → g ≠ B) (hlb : ¬ tx (rest ts i) = S.lb)
    (hP : need S.lp (rest ts i) (fun l => if tx l = S.rp then .ok (nd 21 [x]) l.tail else P f 6 (nd 21 [x]) 0 l) = some r) : Calls Tryz.prog 132 #[.pointer (some ⟨B, 0, none⟩), ndv x b cap] w (PAns D w B ts r) := by
  obtain ⟨i0, hi0, hz0, hz1, hz2⟩ := info_parts info24
  obtain ⟨h3, h4⟩ := new2 w (nbx x b cap) zbx
  have hT := hC.takes_no pl_lb hlb _ (below2 w (nbx x b cap) zbx)
  have hBw := hC.R.lt
  have hb0 := below2 w (nbx x b cap) zbx
  rcases need_some hP with ⟨hlp, hP2⟩ | ⟨hlp, rfl⟩
  · rw [rest_tail] at hP2
    replace hP2 : Hid _ := hP2
    clear hP
    go_enter Tryz.func132, Tryz.ntmps132
    go_wp2_with (first | (go_at_call 85; refine hT.mono ?_; rintro e w1 ⟨rfl, hb1⟩) | (go_at_call 82; refine ((hC.below (ext_trans hb0 hb1)).wants_yes pl_lp hlp _ (Below.refl _ _)).mono ?_; rintro e w2 ⟨rfl, hR2, hk2⟩; refine Hid.out ?_))
    have hkw : Keeps (fun k => k = B) w w2 := (Keeps.of_below (ext_trans hb0 hb1)).trans hk2
    have g3 := (hk2.box (block_below hb1 h3) (by omega))
    have g4 := (hk2.box (block_below hb1 h4) (by omega))
    have hz4 := block_lt g4
    have hx2 : NdV (fun g => (D g ∨ w.heap.size ≤ g) ∧ g ≠ w.heap.size ∧ g ≠ w.heap.size + 1) w2 x (ndv x b cap) := ((hx.weak (S' := fun g => D g ∧ g < w.heap.size) (fun g hg hlt => ⟨hg, hlt⟩)).keep hkw (fun g hg _ => hS g hg.1)).weak (fun g hg _ => ⟨.inl hg.1, by omega, by omega⟩)
    obtain ⟨W3, hW3⟩ : ∃ W3, put4 (w2.alloc (nbx x b cap)) w.heap.size (.int .i64 21) (sk []) (.int .i64 0) (.slice (some ⟨w2.heap.size, 0, none⟩) 1 1) = W3 := ⟨_, rfl⟩
    obtain ⟨hRow3, q3, hk3⟩ := one_box 21 0 hx2 (fun g hg => hg.2.1) ⟨.inr (by omega), by omega, by omega⟩ g3 hW3
    have q4 := hk3.box g4 (by omega)
    have hR3 := hR2.keep hk3 (fun g hg => by omega)
    have hkw3 := hkw.then hk3 (fun j hj e => by omega)
    have hC3 := hC.on hR3
    have hSee := hC3.sees1 pl_rp W3 (Below.refl _ _)
    obtain ⟨c0, c1, c2, c3, f0, f1, f2, f3⟩ := in4 g3
    obtain ⟨d0, d1, d2, d3, e0, e1, e2, e3⟩ := in4a g3
    have hlen : ∃ more : Bool, decide (tx (rest ts (i + 1)) = S.rp) = !more ∧ (if more then f ≤ f ∧ P f 6 (nd 21 [x]) 0 (rest ts (i + 1)) = some r else need S.rp (rest ts (i + 1)) (fun l => .ok (nd 21 [x]) l) = some r) := by
      by_cases hy : tx (rest ts (i + 1)) = S.rp
      · refine ⟨false, by simp [hy], ?_⟩
        have := hP2.out
        rw [if_pos hy] at this
        rw [if_neg (by decide)]
        unfold need
        rw [if_pos hy]
        exact this
      · refine ⟨true, by simp [hy], ?_⟩
        have := hP2.out
        rw [if_neg hy] at this
        rw [if_pos rfl]
        exact ⟨Nat.le_refl _, this⟩
    obtain ⟨more, hm1, hm2⟩ := hlen
    rw [hm1] at hSee
    replace hm2 : Hid _ := hm2
    clear hP2 hm1 h3 h4 hT hlb hlp hx2 hx
    refine Lib.hid ?_
    go_wp2_with (go_at_call 84; refine Hid.out ?_)
    clear hW3 c0 c1 c2 c3 f0 f1 f2 f3 d0 d1 d2 d3 e0 e1 e2 e3 g3 g4 hk3 hk2 hkw hR2
    refine Lib.hid ?_
    go_wp2_with (go_at_call 84; refine hSee.mono ?_; rintro e w4 ⟨rfl, hb4⟩)
    have q3' := block_below hb4 q3
    have q4' := block_below hb4 q4
    have hRow4 := hRow3.below hb4
    have hR4 := hR3.below hb4
    have hkw4 := hkw3.trans (Keeps.of_below hb4)
    have hown4 : ∀ q, Value.ownBlock (.slice (some ⟨w2.heap.size, 0, none⟩) 1 1) = some q → w.heap.size ≤ q := fun q e => by
      have : w2.heap.size = q := by simpa [Value.ownBlock] using e
      omega
    have hI : ArgI D f w B ts r f (.bool more) w4 := ⟨more, [x], i + 1, _, 1, rfl, q3', q4', hRow4, hown4, hR4, hkw4, by simp, hm2.out⟩
    clear q3 q4 hRow3 hR3 hkw3 hC3 hSee hRow4 hR4 hkw4 hown4 hm2 q3' q4' hb4 hz4 hb1
    go_loopg [5] f (fun k m wr => ArgI D f w B ts r k m wr)
    case atStart => exact hI
    case round =>
      obtain ⟨more1, ks, j, b', cap', rfl, p3, p4, hRow, hown, hR, hk, hkl, hr⟩ := hrel
      clear hI
      obtain ⟨c0, c1, c2, c3, f0, f1, f2, f3⟩ := in4 p3
      have hCr := hC.on hR
      have hz4 := block_lt p4
      cases more1 with
      | false =>
        rw [if_neg (by decide)] at hr
        rcases need_some hr with ⟨hy, hr3⟩ | ⟨hy, rfl⟩
        · rw [rest_tail] at hr3
          have hWt := hCr.wants_yes pl_rp hy wr (Below.refl _ _)
          replace hr3 : Hid _ := hr3
          have hN := hRow.node 21 [] 0
          clear hr
          go_wp2_with (go_at_call 82; refine hWt.mono ?_; rintro e w4 ⟨rfl, hR4, hk4⟩; have p3 := hk4.box p3 (by omega); have p4 := hk4.box p4 (by omega); obtain ⟨c0, c1, c2, c3, f0, f1, f2, f3⟩ := in4 p3; obtain ⟨d0, d1, d2, d3, e0, e1, e2, e3⟩ := in4 p4)
          refine bodyPost_ret (res156 rfl (put4_same _ _ _ _ p4)) rfl ?_
          obtain rfl := Option.some.inj hr3.out
          exact close_ret (N := nd 21 ks) rfl ((hN.keep hk4 (fun g hg _ => by rcases hg.1 with h | h; exact hS g h; omega)).weak (fun g hg _ => ⟨hg.1, hg.2.2⟩)) hR4 (hk.trans hk4) (by omega) hBw
        · have hWt := hCr.wants_no pl_rp hy wr (Below.refl _ _)
          clear hr
          go_wp2_with (go_at_call 82; refine hWt.mono ?_; rintro e w4 ⟨rfl, hb4⟩)
          exact ⟨rfl, close_pan rfl hR.le (hk.trans (Keeps.of_below hb4))⟩
      | true =>
        rw [if_pos rfl] at hr
        obtain ⟨hgf, hr⟩ := hr
        cases gk with
        | zero => cases hr
        | succ g =>
          rw [P] at hr
          obtain ⟨r0, hr0, hr1⟩ := on_some hr
          have hEE := fun u h => hE g (by omega) r0 B ts j u h hr0
          replace hr1 : Hid _ := hr1
          have hjl := hR.le
          have hsh := hR.short
          have hn1 : ks.length + 1 ≤ maxLen := by unfold maxLen; omega
          have hb1 : (ks.length + 1) * 56 ≤ 140737488355328 := by omega
          have hr0' : Hid _ := hr0
          clear hr hr0 hE
          go_wp2
          go_region_law (first
            | (refine step_append_lies _ (by rfl) _ _ _ (by rfl) 0 24 i0 _ 4 56 Tryz.underlying22 hi0 hz0 hz1 hz2 rfl (by omega) (.slice b' ks.length cap') ks.length _ (by rfl) ho ⟨w2.heap.size, 0, none⟩ 1 1 _ (by rfl) (by rfl) (cells_of n1 b1 cap1 (alloc_new w2 (nbx n1 b1 cap1))) (by simp [Value.oneCell']) (by omega) hn1 hb1 (Nat.zero_le _) _ rfl ?_; intro g3 cap3 w3 hown3 hgrow hat hlt3; have p3w := (hgrow.block _ (block_lt p3) hne3).trans p3; obtain ⟨c0, c1, c2, c3, f0, f1, f2, f3⟩ := in4 p3w)
            | (go_simp; go_at_call 130; refine (hEE _ (hCr.below ((Below.refl _ _).drew))).mono ?_; intro e w2 hA; rcases r0 with l1 | ⟨n1, l1⟩; (obtain ⟨j2, hj2, hle, rfl, hk2⟩ := hA; rcases hr1.out with ⟨l, e1, e2⟩ | ⟨n, l, e1, _⟩; (cases e1; subst e2; exact ⟨rfl, close_pan hj2 hle ((hk.drew).trans hk2)⟩); cases e1); obtain ⟨j2, b1, cap1, hj2, rfl, hN1, hR2, hk2'⟩ := hA; have hk2 := ((Keeps.refl (fun k => k = B) wr).drew).trans hk2'; clear hk2'; have pw3 := hk2.box p3 (by omega); have p3 := block_alloc (nbx n1 b1 cap1) pw3; have p4 := block_alloc (nbx n1 b1 cap1) (hk2.box p4 (by omega)); obtain ⟨c0, c1, c2, c3, f0, f1, f2, f3⟩ := in4 pw3; obtain ⟨d0, d1, d2, d3, e0, e1, e2, e3⟩ := in4a pw3; obtain ⟨xs, ho, hs, hn⟩ := ((hRow.keep hk2 (fun g hg _ => by rcases hg.1 with h | h; exact hS g h; omega)).below (ext_alloc (Below.refl _ _) (nbx n1 b1 cap1))).own; have hne3 : some w.heap.size ≠ Value.ownBlock (.slice b' ks.length cap') := fun e => (hs _ e.symm).2.1 rfl))
          all_goals
            rcases hr1.out with ⟨l, e1, _⟩ | ⟨n, l, e1, hr2⟩
            · cases e1
            cases e1
            clear hr1 c0 c1 c2 c3 f0 f1 f2 f3 d0 d1 d2 d3 e0 e1 e2 e3 hEE p3w pw3
            have hb2a := ext_alloc (Below.refl w2.heap.size w2) (nbx n1 b1 cap1)
            obtain ⟨_, _, _, hlt9⟩ := hRow.form
            have hy : NdV (fun q => ((D q ∨ w.heap.size ≤ q) ∧ q ≠ w.heap.size ∧ q ≠ w.heap.size + 1) ∧ some q ≠ Value.ownBlock (.slice b' ks.length cap')) (w2.alloc (nbx n1 b1 cap1)) n1 (ndv n1 b1 cap1) := (hN1.weak (fun q hq _ => by simp at hq; exact ⟨⟨.inr (by omega), by omega, by omega⟩, fun e => by have := (hlt9 q e.symm).2; omega⟩)).below hb2a
            obtain ⟨W4, hW4⟩ : ∃ W4, w3.setCell ⟨w.heap.size, 3, none⟩ (.slice (some ⟨g3, 0, none⟩) (ks.length + 1) cap3) = W4 := ⟨_, rfl⟩
            have hz2 : wr.heap.size ≤ w2.heap.size := hk2.size
            obtain ⟨hRow5, q3, hk5, hown5⟩ := kids_step ho hs hn hy (fun q hq => hq.2.1) (fun q hq => by simp at hq; exact ⟨.inr (by omega), by omega, by omega⟩) hown (by simp; omega) p3 hown3 hgrow hat hW4
            have q4 := hk5.box p4 (fun e => by rcases e with e | e; omega; exact (hs _ e.symm).2.2 rfl)
            have hR5 := (hR2.below hb2a).keep hk5 (fun q hq e => by rcases e with e | e; omega; have := hown q e.symm; omega)
            have hkw5 := ((hk.trans hk2).trans (Keeps.of_below hb2a)).then hk5 (fun q hq e => by rcases e with e | e; omega; have := hown q e.symm; omega)
            have hjn := room_of hr0' hj2
            rw [← hj2] at hr2
            have hC5 := hC.on hR5
            clear hown3 hgrow hat hlt3 ho hs hn hy hk5 p3 p4 hRow hR2 hN1 hk2 hb2a hown
            refine Lib.hid ?_
            by_cases hcm : tx (rest ts j2) = S.cm
            · rw [if_pos hcm, rest_tail] at hr2
              replace hr2 : Hid _ := hr2
              have hT5 := hC5.takes_yes pl_cm hcm W4 (Below.refl _ _)
              go_wp2_with (go_at_call 85; refine hT5.mono ?_; rintro e w6 ⟨rfl, hR6, hk6⟩)
              go_roundg g
              case measure => omega
              case rel => exact ⟨true, ks ++ [n1], j2 + 1, _, _, rfl, hk6.box q3 (by omega), hk6.box q4 (by omega), hRow5.keep hk6 (fun g hg _ => by rcases hg.1 with h | h; exact hS g h; omega), hown5, hR6, hkw5.trans hk6, by simp; omega, by rw [if_pos rfl]; exact ⟨by omega, hr2.out⟩⟩
            · rw [if_neg hcm] at hr2
              replace hr2 : Hid _ := hr2
              have hT5 := hC5.takes_no pl_cm hcm W4 (Below.refl _ _)
              go_wp2_with (go_at_call 85; refine hT5.mono ?_; rintro e w6 ⟨rfl, hb6⟩)
              go_roundg g
              case measure => omega
              case rel => exact ⟨false, ks ++ [n1], j2, _, _, rfl, block_below hb6 q3, block_below hb6 q4, hRow5.below hb6, hown5, hR5.below hb6, hkw5.trans (Keeps.of_below hb6), by simp; omega, by rw [if_neg (by decide)]; exact hr2.out⟩
  · have hWt := fun u hb => hC.wants_no pl_lp hlp u hb
    clear hP
    go_enter Tryz.func132, Tryz.ntmps132
    go_wp2_with (first | (go_at_call 85; refine hT.mono ?_; rintro e w1 ⟨rfl, hb1⟩) | (go_at_call 82; refine (hWt _ (ext_trans hb0 hb1)).mono ?_; rintro e w2 ⟨rfl, hb2⟩))
    exact ⟨rfl, close_pan rfl hC.R.le (Keeps.of_below (ext_trans (ext_trans hb0 hb1) hb2))⟩
end Go.Proofs.YtnnppenlfocgiaaGreatDoor
namespace Go.Proofs.YtnnppenlfocgiaaGreatDoor
open Go.RowKit
open Go

abbrev iv (n : Int) : Value := .int .i64 n
def trioL (x : Ld) : List Value := [sk x.nm, .int .i64 (x.dp : Nat), .bool x.lp]
def flatL (ls : List Ld) : List Value := ls.flatMap trioL
abbrev lkb (u : Nd) (ub : Option Addr) (uc : Nat) (sb : Option Addr) (sn sc : Nat) (lb : Option Addr) (ln lc : Nat) (c a : Int) (st : Bool) : Obj := .cells #[.int .i64 u.k, sk u.t, .int .i64 u.n, .slice ub u.kids.length uc, .slice sb sn sc, .slice lb ln lc, .int .i64 c, .int .i64 a, .bool st] 37
/-- The Look in block B: the program u, slots, locals, the fault, whether it has stopped; below w0's end all is as it was. -/
structure Lo (w0 : World) (B : Nat) (u : Nd) (ub : Option Addr) (uc : Nat) (sl : List Int) (ls : List Ld) (c a : Int) (st : Bool) (W : World) : Prop where
  box : ∃ sb sc lb lc, W.heap[B]? = some (lkb u ub uc sb sl.length sc lb ls.length lc c a st) ∧ W.ownsRow w0.heap.size 3 1 (.slice sb sl.length sc) sl.length (sl.map iv) ∧ W.ownsRow w0.heap.size 58 3 (.slice lb ls.length lc) ls.length (flatL ls) ∧
    (∀ q, Value.ownBlock (.slice sb sl.length sc) = some q → w0.heap.size ≤ q ∧ q ≠ B) ∧ (∀ q, Value.ownBlock (.slice lb ls.length lc) = some q → w0.heap.size ≤ q ∧ q ≠ B ∧ Value.ownBlock (.slice sb sl.length sc) ≠ some q)
  bl : Below w0.heap.size w0 W
  hB : w0.heap.size ≤ B
theorem info3 : (Tryz.prog.info? 3).map (fun i => (i.zero, i.size, i.bytes)) = some (some (.int .i64 0), 1, 8) := by kernel_rfl
theorem own_belowT {W W' : World} {T s : Nat} {v : Value} {n : Nat} {xs : List Value} {base : Nat} (h : W.ownsRow base T s v n xs) (hb : Below W.heap.size W W') : W'.ownsRow base T s v n xs := by
  obtain ⟨h1, h2⟩ := h
  refine ⟨h1, ?_⟩
  rcases h2 with h2 | ⟨g, cap', cur, e, hbase, hg, h3⟩
  · exact .inl h2
  · exact .inr ⟨g, cap', cur, e, hbase, block_below hb hg, h3⟩
theorem own_keepT {W W' : World} {T s : Nat} {v : Value} {n : Nat} {xs : List Value} {base : Nat} (h : W.ownsRow base T s v n xs) (hk : ∀ q, Value.ownBlock v = some q → q < W.heap.size → W'.heap[q]? = W.heap[q]?) : W'.ownsRow base T s v n xs := by
  obtain ⟨h1, h2⟩ := h
  refine ⟨h1, ?_⟩
  rcases h2 with h2 | ⟨g, cap', cur, e, hbase, hg, h3⟩
  · exact .inl h2
  · exact .inr ⟨g, cap', cur, e, hbase, (hk g (by rw [e]; rfl) (block_lt hg)).trans hg, h3⟩
theorem own_block_lt {W : World} {T s : Nat} {v : Value} {n : Nat} {xs : List Value} {base q : Nat} (h : W.ownsRow base T s v n xs) (hq : Value.ownBlock v = some q) : q < W.heap.size := by
  rcases h.2 with ⟨e, _⟩ | ⟨g, cap', cur, e, hbase, hg, h3⟩
  · rw [e] at hq; simp [Value.ownBlock] at hq
  · rw [e] at hq
    simp [Value.ownBlock] at hq
    subst hq
    exact block_lt hg
/-- A block that is none of the Look's own. -/
def ApL (B : Nat) (W : World) (t : Nat) : Prop := t ≠ B ∧ ∀ v0 v1 v2 v3 v4 v5 v6 v7 v8, W.heap[B]? = some (.cells #[v0, v1, v2, v3, v4, v5, v6, v7, v8] 37) → Value.ownBlock v4 ≠ some t ∧ Value.ownBlock v5 ≠ some t
/-- What is apart stays so, and as it was. -/
def LK (B : Nat) (W W' : World) : Prop := ∀ t o, ApL B W t → W.heap[t]? = some o → W'.heap[t]? = some o ∧ ApL B W' t
theorem LK.trans {B : Nat} {W V W' : World} (p : LK B W V) (q : LK B V W') : LK B W W' := fun t o ha ho => by
  obtain ⟨h1, h2⟩ := p t o ha ho
  exact q t o h2 h1
theorem Lo.on {w0 : World} {B : Nat} {u : Nd} {ub : Option Addr} {uc : Nat} {sl : List Int} {ls : List Ld} {c a : Int} {st : Bool} {W W' : World} (h : Lo w0 B u ub uc sl ls c a st W) (hb : Below W.heap.size W W') : Lo w0 B u ub uc sl ls c a st W' := by
  obtain ⟨⟨sb, sc, lb, lc, h1, h2, h3, h4, h5⟩, h6, h7⟩ := h
  exact ⟨⟨sb, sc, lb, lc, block_below hb h1, own_belowT h2 hb, own_belowT h3 hb, h4, h5⟩, ext_trans h6 hb, h7⟩
theorem Lo.lt {w0 : World} {B : Nat} {u : Nd} {ub : Option Addr} {uc : Nat} {sl : List Int} {ls : List Ld} {c a : Int} {st : Bool} {W : World} (h : Lo w0 B u ub uc sl ls c a st W) : B < W.heap.size := by
  obtain ⟨⟨sb, sc, lb, lc, h1, _⟩, _⟩ := h
  exact block_lt h1
theorem LK.below {B : Nat} {W W' : World} (hB : B < W.heap.size) (hb : Below W.heap.size W W') : LK B W W' := fun _ _ ha ho =>
  ⟨block_below hb ho, ha.1, fun v0 v1 v2 v3 v4 v5 v6 v7 v8 hv => ha.2 v0 v1 v2 v3 v4 v5 v6 v7 v8 ((hb.block B hB).symm.trans hv)⟩

set_option maxRecDepth 20000 in
set_option maxHeartbeats 2000000 in
/-- A node's number. -/
theorem number_any (w0 : World) (B : Nat) (u : Nd) (ub : Option Addr) (uc : Nat) (sl : List Int) (ls : List Ld) (c a : Int) (st : Bool) (W : World) (h : Lo w0 B u ub uc sl ls c a st W) (hlen : sl.length ≤ 100000) : Calls Tryz.prog 10 #[.pointer (some ⟨B, 0, none⟩)] W fun e W' => e = .returned (.int .i64 (sl.length : Nat)) ∧ Lo w0 B u ub uc (sl ++ [-1]) ls c a st W' ∧ LK B W W' := by
  have hb := ext_alloc (Below.refl W.heap.size W) (.cells #[.int .i64 (-1)] 3)
  have gQ := alloc_new W (.cells #[.int .i64 (-1)] 3)
  have hLK := LK.below h.lt hb
  have hlt0 := h.lt
  replace h := h.on hb
  obtain ⟨Q, hQ⟩ : ∃ Q, W.heap.size = Q := ⟨_, rfl⟩
  obtain ⟨V, hV⟩ : ∃ V, W.alloc (.cells #[.int .i64 (-1)] 3) = V := ⟨_, rfl⟩
  rw [hV] at h gQ hLK
  rw [hQ] at gQ
  obtain ⟨i0, hi0, hz0, hz1, hz2⟩ := info_parts info3
  obtain ⟨⟨sb, sc, lb, lc, h1, h2, h3, h4, h5⟩, h6, h7⟩ := h
  have c4 : W.cell? ⟨B, 4, none⟩ = some (.slice sb sl.length sc) := by
    have := cell_block (i := 4) h1 rfl
    rw [← hV] at this
    rw [World.cell?_alloc_past _ _ _ hlt0] at this
    exact this
  have d4 : V.cell? ⟨B, 4, none⟩ = some (.slice sb sl.length sc) := cell_block h1 rfl
  have f4 : V.frozen? ⟨B, 4, none⟩ = false := frozen_block h1
  have hneB : some B ≠ Value.ownBlock (.slice sb sl.length sc) := fun e => (h4 B e.symm).2 rfl
  have hnews : ∀ j x, [iv (-1)][j]? = some x → V.cell? ((⟨Q, 0, none⟩ : Addr).add j) = some x := fun j x hx => by
    match j, hx with
    | 0, hx => cases hx; simpa [Addr.add] using cell_block (i := 0) gQ rfl
    | j + 1, hx => simp at hx
  have hone : ∀ x ∈ [iv (-1)], x.oneCell' = true := fun x hx => by simp at hx; subst hx; rfl
  have h63 : sl.length + 1 ≤ maxLen := by unfold maxLen; omega
  have hby : (sl.length + 1) * 8 ≤ 140737488355328 := by omega
  have hsz := h6.size
  have h6' := h6
  replace hV : W.alloc (.cells #[.int .i64 (-1)] 3) = V := hV
  go_enter Tryz.func10, Tryz.ntmps10
  go_wp2_with (at_builtin; refine wpList_append_lies _ (by rfl) _ _ _ (by rfl) w0.heap.size 3 i0 _ 1 8 Tryz.underlying30 hi0 hz0 hz1 hz2 rfl (by omega) (.slice sb sl.length sc) sl.length _ (by rfl) h2 ⟨Q, 0, none⟩ 1 1 [iv (-1)] (by rfl) (by rfl) hnews hone (by omega) h63 hby hsz _ rfl ?_; intro g3 cap3 w3 hown3 hgrow hat hlt3; have p1 := (hgrow.block _ (block_lt h1) hneB).trans h1; have d4 : w3.cell? ⟨B, 4, none⟩ = some (.slice sb sl.length sc) := cell_block p1 rfl; have f4 : w3.frozen? ⟨B, 4, none⟩ = false := frozen_block p1)
  have hg3 : g3 ≠ B := by
    rcases hat with e | e
    · exact (h4 g3 e).2
    · have := block_lt h1
      omega
  have hg4 : w0.heap.size ≤ g3 := by
    rcases hat with e | e
    · exact (h4 g3 e).1
    · omega
  have hk4 : Below w0.heap.size w0 (w3.setCell ⟨B, 4, none⟩ (.slice (some ⟨g3, 0, none⟩) (sl.length + 1) cap3)) := (((Keeps.of_below (S := no) h6').then (Keeps.grown hgrow) (fun q hq e => by have := (h4 q e.symm).1; omega)).set B 4 _ (fun h => by omega)).below (Nat.le_refl _) (fun _ _ => id)
  have hb4 := set_block (i := 4) (.slice (some ⟨g3, 0, none⟩) (sl.length + 1) cap3) p1
  have hll : (sl ++ [-1]).length = sl.length + 1 := by simp
  go_ret
  refine ⟨rfl, ⟨⟨some ⟨g3, 0, none⟩, cap3, lb, lc, ?_, ?_, ?_, ?_, ?_⟩, hk4, h7⟩, hLK.trans ?_⟩
  · rw [hll]
    exact hb4
  · rw [hll, List.map_append]
    exact own_keepT hown3 (fun q e _ => by simp [Value.ownBlock] at e; subst e; exact set1_other _ _ hg3)
  · refine own_keepT h3 (fun q e hq => ?_)
    obtain ⟨_, e2, e3⟩ := h5 q e
    exact (set1_other _ _ e2).trans (hgrow.block q hq (fun e4 => e3 e4.symm))
  · rw [hll]
    intro q e
    simp [Value.ownBlock] at e
    subst e
    exact ⟨hg4, hg3⟩
  · rw [hll]
    intro q e
    obtain ⟨e1, e2, e3⟩ := h5 q e
    refine ⟨e1, e2, fun e4 => ?_⟩
    simp [Value.ownBlock] at e4
    subst e4
    rcases hat with e5 | e5
    · exact e3 e5
    · have := own_block_lt h3 e
      omega
  · intro t o ha ho
    have hto : some t ≠ Value.ownBlock (.slice sb sl.length sc) := fun e => (ha.2 _ _ _ _ _ _ _ _ _ h1).1 e.symm
    refine ⟨(set1_other _ _ ha.1).trans ((hgrow.block t (block_lt ho) hto).trans ho), ha.1, fun v0 v1 v2 v3 v4 v5 v6 v7 v8 hv => ?_⟩
    have hv' := hb4.symm.trans hv
    have ev : Value.slice (some ⟨g3, 0, none⟩) (sl.length + 1) cap3 = v4 ∧ Value.slice lb ls.length lc = v5 := by
      simp at hv'
      exact ⟨hv'.2.2.2.2.1, hv'.2.2.2.2.2.1⟩
    obtain ⟨rfl, rfl⟩ := ev
    refine ⟨fun e => ?_, (ha.2 _ _ _ _ _ _ _ _ _ h1).2⟩
    simp [Value.ownBlock] at e
    subst e
    rcases hat with e | e
    · exact hto e.symm
    · have := block_lt ho
      omega
end Go.Proofs.YtnnppenlfocgiaaGreatDoor
namespace Go.Proofs.YtnnppenlfocgiaaGreatDoor
open Go.RowKit
open Go

/-- What is told behind a question. -/
def unl (is : Bool) (code at_ : Int) (f : Int × Int × Bool) : Int × Int × Bool := if is || f.2.2 then f else (code, at_, true)
theorem Lo.cells {w0 : World} {B : Nat} {u : Nd} {ub : Option Addr} {uc : Nat} {sl : List Int} {ls : List Ld} {c a : Int} {st : Bool} {W : World} (h : Lo w0 B u ub uc sl ls c a st W) : W.cell? ⟨B, 8, none⟩ = some (.bool st) ∧ W.frozen? ⟨B, 8, none⟩ = false ∧ W.cell? ⟨B, 6, none⟩ = some (.int .i64 c) ∧ W.frozen? ⟨B, 6, none⟩ = false ∧ W.cell? ⟨B, 7, none⟩ = some (.int .i64 a) ∧ W.frozen? ⟨B, 7, none⟩ = false := by
  obtain ⟨⟨sb, sc, lb, lc, h1, _⟩, _⟩ := h
  exact ⟨cell_block h1 rfl, frozen_block h1, cell_block h1 rfl, frozen_block h1, cell_block h1 rfl, frozen_block h1⟩
set_option maxRecDepth 20000 in
set_option maxHeartbeats 1000000 in
theorem unless_yes (B : Nat) (code a : Int) (W : World) : Calls Tryz.prog 13 #[.pointer (some ⟨B, 0, none⟩), .bool true, .int .i64 code, .int .i64 a] W fun e W' => e = .returned (.tuple #[]) ∧ W' = W := by
  go_enter Tryz.func13, Tryz.ntmps13
  go_wp2
  go_end0
  exact ⟨rfl, rfl⟩
set_option maxRecDepth 20000 in
set_option maxHeartbeats 1000000 in
theorem unless_st (B : Nat) (code a : Int) (W : World) (c8 : W.cell? ⟨B, 8, none⟩ = some (.bool true)) : Calls Tryz.prog 13 #[.pointer (some ⟨B, 0, none⟩), .bool false, .int .i64 code, .int .i64 a] W fun e W' => e = .returned (.tuple #[]) ∧ W' = W := by
  go_enter Tryz.func13, Tryz.ntmps13
  go_wp2
  go_end0
  exact ⟨rfl, rfl⟩
set_option maxRecDepth 20000 in
set_option maxHeartbeats 1000000 in
theorem unless_no (B : Nat) (code a c0 a0 : Int) (W : World) (c8 : W.cell? ⟨B, 8, none⟩ = some (.bool false)) (f8 : W.frozen? ⟨B, 8, none⟩ = false) (c6 : W.cell? ⟨B, 6, none⟩ = some (.int .i64 c0)) (f6 : W.frozen? ⟨B, 6, none⟩ = false) (c7 : W.cell? ⟨B, 7, none⟩ = some (.int .i64 a0)) (f7 : W.frozen? ⟨B, 7, none⟩ = false) : Calls Tryz.prog 13 #[.pointer (some ⟨B, 0, none⟩), .bool false, .int .i64 code, .int .i64 a] W fun e W' => e = .returned (.tuple #[]) ∧ W' = ((W.setCell ⟨B, 8, none⟩ (.bool true)).setCell ⟨B, 6, none⟩ (.int .i64 code)).setCell ⟨B, 7, none⟩ (.int .i64 a) := by
  go_enter Tryz.func13, Tryz.ntmps13
  go_wp2
  go_end0
  exact ⟨rfl, rfl⟩
theorem unless_any (w0 : World) (B : Nat) (u : Nd) (ub : Option Addr) (uc : Nat) (sl : List Int) (ls : List Ld) (c a : Int) (st : Bool) (is : Bool) (code at_ : Int) (W : World) (h : Lo w0 B u ub uc sl ls c a st W) : Calls Tryz.prog 13 #[.pointer (some ⟨B, 0, none⟩), .bool is, .int .i64 code, .int .i64 at_] W fun e W' => e = .returned (.tuple #[]) ∧ Lo w0 B u ub uc sl ls (unl is code at_ (c, a, st)).1 (unl is code at_ (c, a, st)).2.1 (unl is code at_ (c, a, st)).2.2 W' ∧ LK B W W' := by
  obtain ⟨c8, f8, c6, f6, c7, f7⟩ := h.cells
  have hid : LK B W W := fun t o ha ho => ⟨ho, ha⟩
  cases is with
  | true => exact (unless_yes B code at_ W).mono fun e W' ⟨he, hw⟩ => ⟨he, by rw [hw]; exact ⟨h, hid⟩⟩
  | false =>
    cases st with
    | true => exact (unless_st B code at_ W c8).mono fun e W' ⟨he, hw⟩ => ⟨he, by rw [hw]; exact ⟨h, hid⟩⟩
    | false =>
      refine (unless_no B code at_ c a W c8 f8 c6 f6 c7 f7).mono fun e W' ⟨he, hw⟩ => ⟨he, ?_⟩
      subst hw
      obtain ⟨⟨sb, sc, lb, lc, h1, h2, h3, h4, h5⟩, h6, h7⟩ := h
      have g := set_block (i := 7) (.int .i64 at_) (set_block (i := 6) (.int .i64 code) (set_block (i := 8) (.bool true) h1))
      have ho : ∀ q, q ≠ B → (((W.setCell ⟨B, 8, none⟩ (.bool true)).setCell ⟨B, 6, none⟩ (.int .i64 code)).setCell ⟨B, 7, none⟩ (.int .i64 at_)).heap[q]? = W.heap[q]? := fun q hq => (set1_other _ _ hq).trans ((set1_other _ _ hq).trans (set1_other _ _ hq))
      refine ⟨⟨⟨sb, sc, lb, lc, g, own_keepT h2 (fun q e _ => ho q (h4 q e).2), own_keepT h3 (fun q e _ => ho q (h5 q e).2.1), h4, h5⟩, ?_, h7⟩, fun t o ha hto => ⟨(ho t ha.1).trans hto, ha.1, fun v0 v1 v2 v3 v4 v5 v6 v7 v8 hv => ?_⟩⟩
      · exact ((h6.setCell (p := ⟨B, 8, none⟩) h7 _).setCell (p := ⟨B, 6, none⟩) h7 _).setCell (p := ⟨B, 7, none⟩) h7 _
      · have hv' := g.symm.trans hv
        have ev : Value.slice sb sl.length sc = v4 ∧ Value.slice lb ls.length lc = v5 := by
          simp at hv'
          exact ⟨hv'.2.2.2.2.1, hv'.2.2.2.2.2.1⟩
        obtain ⟨rfl, rfl⟩ := ev
        exact ha.2 _ _ _ _ _ _ _ _ _ h1
end Go.Proofs.YtnnppenlfocgiaaGreatDoor
namespace Go.Proofs.YtnnppenlfocgiaaGreatDoor
open Go.RowKit
open Go

theorem flatL_get : ∀ {ls : List Ld} {j : Nat} {x : Ld}, ls[j]? = some x → ∀ i, i < 3 → (flatL ls)[j * 3 + i]? = (trioL x)[i]?
  | [], j, x, h, _, _ => by simp at h
  | y :: ls, 0, x, h, i, hi => by
    simp at h
    subst h
    show (trioL y ++ flatL ls)[0 * 3 + i]? = _
    rw [Nat.zero_mul, Nat.zero_add, List.getElem?_append_left (by simpa [trioL] using hi)]
  | y :: ls, j + 1, x, h, i, hi => by
    have ih := flatL_get (ls := ls) (j := j) (x := x) (by simpa using h) i hi
    show (trioL y ++ flatL ls)[(j + 1) * 3 + i]? = _
    rw [List.getElem?_append_right (by simp [trioL]; omega)]
    rw [show (j + 1) * 3 + i - (trioL y).length = j * 3 + i by simp [trioL]; omega]
    exact ih
theorem own_local {base : Nat} {W : World} {b : Option Addr} {n d : Nat} {ls : List Ld} (h : W.ownsRow base 58 3 (.slice b n d) ls.length (flatL ls)) {j : Nat} {x : Ld} (hx : ls[j]? = some x) : ∃ g, b = some ⟨g, 0, none⟩ ∧ W.cell? ⟨g, j * 3, none⟩ = some (sk x.nm) ∧ W.cell? ⟨g, j * 3 + 1, none⟩ = some (.int .i64 (x.dp : Nat)) ∧ W.cell? ⟨g, j * 3 + 2, none⟩ = some (.bool x.lp) := by
  rcases h.2 with ⟨e, h0⟩ | ⟨g, cap, cur, e, _, hg, hcap, _, _, ht⟩
  · have : ls = [] := List.length_eq_zero_iff.1 h0
    subst this
    simp at hx
  · cases e
    have hjl : j < ls.length := (List.getElem?_eq_some_iff.1 hx).1
    have key : ∀ i v, i < 3 → (trioL x)[i]? = some v → W.cell? ⟨g, j * 3 + i, none⟩ = some v := fun i v hi hv => by
      have hf := flatL_get hx i hi
      rw [← ht, List.getElem?_take_of_lt (by omega)] at hf
      have hf2 : cur[j * 3 + i]? = (trioL x)[i]? := by simpa using hf
      rw [hv] at hf2
      simp [World.cell?, hg, hf2]
    exact ⟨g, rfl, key 0 _ (by omega) rfl, key 1 _ (by omega) rfl, key 2 _ (by omega) rfl⟩
/-- The last one of a name. -/
def lastI (s : List UInt8) : List Ld → Option Nat
  | [] => none
  | x :: l => match lastI s l with
    | some i => some (i + 1)
    | none => if x.nm = s then some 0 else none
theorem lastI_none {s : List UInt8} : ∀ {ls : List Ld}, (∀ x ∈ ls, x.nm ≠ s) → lastI s ls = none
  | [], _ => rfl
  | x :: l, h => by rw [lastI, lastI_none (fun y hy => h y (by simp [hy]))]; simp [h x (by simp)]
theorem lastI_some {s : List UInt8} : ∀ {ls : List Ld} {i : Nat} {x : Ld}, ls[i]? = some x → x.nm = s → (∀ j y, i < j → ls[j]? = some y → y.nm ≠ s) → lastI s ls = some i
  | [], i, x, h, _, _ => by simp at h
  | y :: l, 0, x, h, hn, hj => by
    simp at h
    subst h
    rw [lastI, lastI_none (fun z hz => by
      obtain ⟨j, hj'⟩ := List.getElem?_of_mem hz
      exact hj (j + 1) z (by omega) (by simpa using hj'))]
    simp [hn]
  | y :: l, i + 1, x, h, hn, hj => by
    rw [lastI, lastI_some (ls := l) (i := i) (x := x) (by simpa using h) hn (fun j z hij hz => hj (j + 1) z (by omega) (by simpa using hz))]
def lastV (s : List UInt8) (ls : List Ld) : Int := match lastI s ls with | some i => (i : Nat) | none => -1

set_option maxRecDepth 20000 in
set_option maxHeartbeats 1000000 in
theorem local_any (w0 : World) (B : Nat) (u : Nd) (ub : Option Addr) (uc : Nat) (sl : List Int) (ls : List Ld) (c a : Int) (st : Bool) (s : List UInt8) (W : World) (h : Lo w0 B u ub uc sl ls c a st W) (hl : ls.length ≤ 100000) : Calls Tryz.prog 19 #[.pointer (some ⟨B, 0, none⟩), sk s] W fun e W' => e = .returned (.int .i64 (lastV s ls)) ∧ W' = W := by
  obtain ⟨⟨sb, sc, lb, lc, h1, h2, h3, h4, h5⟩, h6, h7⟩ := h
  obtain ⟨R, hR⟩ : ∃ R, lastV s ls = R := ⟨_, rfl⟩
  rw [hR]
  obtain ⟨L, hL⟩ : ∃ L, ls.length = L := ⟨_, rfl⟩
  have c5 : W.cell? ⟨B, 5, none⟩ = some (.slice lb L lc) := by rw [← hL]; exact cell_block h1 rfl
  rw [hL] at hl
  replace hR : Hid _ := hR
  replace hL : Hid _ := hL
  replace h3 : Hid _ := h3
  clear h1 h2 h4 h5 h6
  have hw0 : wrap64 ((L : Int) - 1) = (L : Int) - 1 := by unfold wrap64; omega
  go_enter Tryz.func19, Tryz.ntmps19
  go_wp2
  go_loop [5] (fun i => ∃ j : Nat, j ≤ L ∧ i = .int .i64 ((j : Int) - 1) ∧ ∀ k x, j ≤ k → ls[k]? = some x → x.nm ≠ s) (fun i => (intOf i + 1).toNat)
  case atStart => exact ⟨L, Nat.le_refl _, rfl, fun k x hk hx => by have := (List.getElem?_eq_some_iff.1 hx).1; have := hL.out; omega⟩
  case round =>
    obtain ⟨j, hj, rfl, hno⟩ := hrel
    replace hno : Hid _ := hno
    by_cases hj0 : j = 0
    · subst hj0
      have e : R = -1 := by
        rw [← hR.out, lastV, lastI_none (fun x hx => by obtain ⟨k, hk⟩ := List.getElem?_of_mem hx; exact hno.out k x (by omega) hk)]
      subst e
      go_wp2
      go_ret
      exact ⟨rfl, rfl⟩
    · obtain ⟨i, rfl⟩ : ∃ i, j = i + 1 := ⟨j - 1, by omega⟩
      obtain ⟨x, hx⟩ : ∃ x, ls[i]? = some x := ⟨_, List.getElem?_eq_getElem (show i < ls.length by have := hL.out; omega)⟩
      obtain ⟨g, rfl, v0, v1, v2⟩ := own_local h3.out hx
      have e0 : ((i + 1 : Nat) : Int) - 1 = (i : Int) := by omega
      have hlt : (i : Int) < (L : Int) := by omega
      have hge : (0 : Int) ≤ (i : Int) := by omega
      rw [e0]
      clear v1 v2
      by_cases hn : x.nm = s
      · have e : R = (i : Nat) := by
          rw [← hR.out, lastV, lastI_some hx hn (fun k y hk hy => hno.out k y (by omega) hy)]
        subst e
        rw [hn] at v0
        clear hx hn
        go_wp2
        go_ret
        exact ⟨rfl, rfl⟩
      · have hnext : Hid (∀ k y, i ≤ k → ls[k]? = some y → y.nm ≠ s) := fun k y hk hy => by
          by_cases e : k = i
          · subst e; rw [hx] at hy; cases hy; exact hn
          · exact hno.out k y (by omega) hy
        have hneb : (x.nm == s) = false := by simpa using hn
        obtain ⟨xn, xd, xl⟩ := x
        simp only at v0 hneb
        clear hx hn
        go_wp2
        go_round
        case rel => exact ⟨i, by omega, by go_num, hnext.out⟩
        case measure => simp [intOf]
end Go.Proofs.YtnnppenlfocgiaaGreatDoor
