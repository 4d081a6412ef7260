/- The program's reader: what a call leaves, both ways; the next pair; a loop's body. The program's reader: while; what ends in an expression. The program's reader: what ends in an expression. The program's reader: local; return, emit. -/
import Derived.Test.YtbofdfdmikhanaaGreatDoorJ20
namespace Go.Proofs.YtbofdfdmikhanaaGreatDoor
open Go.RowKit
open Go

theorem row_of (f : Nat) (hG : ∀ g, g ≤ f → RowC g) (hS : SgnC f) : RowC (f + 1) := by
  intro a r B ts i w ha hC hP
  rw [P] at hP
  split at hP
  · have : a = 6 := by omega
    subst this
    exact row_sign f hS r B ts i w hC hP
  · exact row_ops f hG a (by omega) r B ts i w hC hP _ rfl

/-- A call that reads, both ways. -/
def EU (u : World) (B : Nat) (ts : List Tok) (g : Nd → List PT → PR) (r : PRes) (e : Ending) (w' : World) : Prop :=
  (∃ j, r = .inl (rest ts j) ∧ j ≤ ts.length ∧ e = .panicked (pan (gv ts j)) ∧ Keeps (fun k => k = B) u w') ∨
  (∃ n j b cap, g n (rest ts j) = some r ∧ e = .returned (ndv n b cap) ∧ NdV (fun q => u.heap.size ≤ q) w' n (ndv n b cap) ∧ Rd w' B ts j ∧ Keeps (fun k => k = B) u w')
theorem callU {F : Nat} {args : Array Value} {f tag : Nat} {x : Nd} {a : Nat} {l : List PT} {g : Nd → List PT → PR} {r : PRes} {u : World} {B : Nat} {ts : List Tok} (hP : (P f tag x a l).on g = some r) (hc : ∀ r0, P f tag x a l = some r0 → Calls Tryz.prog F args u (PAns no u B ts r0)) : Calls Tryz.prog F args u (EU u B ts g r) := by
  obtain ⟨r0, h0, h1⟩ := on_some hP
  refine (hc r0 h0).mono ?_
  intro e w' hA
  rcases h1 with ⟨l, rfl, rfl⟩ | ⟨n, l, rfl, h1⟩
  · obtain ⟨j, rfl, hle, rfl, hk⟩ := hA
    exact .inl ⟨j, rfl, hle, rfl, hk⟩
  · obtain ⟨j, b, cap, rfl, rfl, hN, hR, hk⟩ := hA
    exact .inr ⟨n, j, b, cap, h1, rfl, hN.weak (fun q hq _ => hq.resolve_left id), hR, hk⟩
def WU (u : World) (B : Nat) (ts : List Tok) (i : Nat) (g : List PT → PR) (r : PRes) (e : Ending) (w' : World) : Prop :=
  (r = .inl (rest ts i) ∧ i ≤ ts.length ∧ e = .panicked (pan (gv ts i)) ∧ Keeps (fun k => k = B) u w') ∨
  (g (rest ts (i + 1)) = some r ∧ e = .returned (.tuple #[]) ∧ Rd w' B ts (i + 1) ∧ Keeps (fun k => k = B) u w')
theorem Ctx.wantsU {w : World} {B : Nat} {ts : List Tok} {i : Nat} (h : Ctx w B ts i) {s : List UInt8} (hs : plainS s) {g : List PT → PR} {r : PRes} (hP : need s (rest ts i) g = some r) (u : World) (hb : Below w.heap.size w u) : Calls Tryz.prog 93 #[.pointer (some ⟨B, 0, none⟩), .slice (some ⟨u.heap.size, 0, none⟩) 1 1] (u.alloc (.cells #[sk s] 9)) (WU u B ts i g r) := by
  rcases need_some hP with ⟨hy, h2⟩ | ⟨hy, rfl⟩
  · rw [rest_tail] at h2
    refine (h.wants_yes hs hy u hb).mono ?_
    rintro e w1 ⟨rfl, hR, hk⟩
    exact .inr ⟨h2, rfl, hR, hk⟩
  · refine (h.wants_no hs hy u hb).mono ?_
    rintro e w1 ⟨rfl, hb1⟩
    exact .inl ⟨rfl, h.R.le, rfl, Keeps.of_below hb1⟩
def NU (u : World) (B : Nat) (ts : List Tok) (i : Nat) (g : List UInt8 → List PT → PR) (r : PRes) (e : Ending) (w' : World) : Prop :=
  (r = .inl (rest ts i) ∧ i ≤ ts.length ∧ e = .panicked (pan (gv ts i)) ∧ Keeps (fun k => k = B) u w') ∨
  (∃ s, g s (rest ts (i + 1)) = some r ∧ e = .returned (sk s) ∧ Rd w' B ts (i + 1) ∧ Keeps (fun k => k = B) u w')
theorem Ctx.nameU {w : World} {B : Nat} {ts : List Tok} {i : Nat} (h : Ctx w B ts i) {g : List UInt8 → List PT → PR} {r : PRes} (hP : needName (rest ts i) g = some r) (u : World) (hb : Below w.heap.size w u) : Calls Tryz.prog 94 #[.pointer (some ⟨B, 0, none⟩)] u (NU u B ts i g r) := by
  have hR := h.R.below hb
  cases hx : ts[i]? with
  | none =>
    have hre := rest_end (List.getElem?_eq_none_iff.1 hx)
    have : r = .inl (rest ts i) := by
      unfold needName at hP
      rw [hre] at hP ⊢
      rw [if_neg (by decide)] at hP
      exact (Option.some.inj hP).symm
    refine (nmR_no B ts i 0 [] 0 (tokH_none hx) (.inr (by decide)) u hR).mono ?_
    rintro e w1 ⟨rfl, hb1⟩
    exact .inl ⟨this, h.R.le, rfl, Keeps.of_below hb1⟩
  | some x =>
    have hre := rest_cons hx
    have hv : valid (pt x) := h.V (pt x) (List.mem_map.2 ⟨x, List.mem_of_getElem? hx, rfl⟩)
    have hn := name_is (k := x.k) (t := x.t) (l := rest ts (i + 1)) hv
    unfold needName at hP
    by_cases hy : nameB (tx (rest ts i)) = true
    · rw [if_pos hy, rest_tail] at hP
      rw [hre] at hy
      obtain ⟨h1, h2⟩ := hn.1 hy
      have ht : tx (rest ts i) = x.t := by
        rw [hre]
        unfold tx
        simp only
        rw [if_neg (by omega)]
      rw [ht] at hP
      refine (nmR_yes B ts i x.t (x.a : Nat) (by rw [tokH_some hx, h1]) h2 (List.getElem?_eq_some_iff.1 hx).1 u hR).mono ?_
      rintro e w1 ⟨rfl, hR1, hk1⟩
      exact .inr ⟨x.t, hP, rfl, hR1, hk1⟩
    · rw [if_neg hy] at hP
      have hno : reserved.contains x.t = true ∨ ¬ x.k = 1 := by
        by_cases h1 : x.k = 1
        · refine .inl ?_
          cases hc : reserved.contains x.t with
          | true => rfl
          | false => exact absurd (by rw [hre]; exact hn.2 ⟨h1, hc⟩) hy
        · exact .inr h1
      refine (nmR_no B ts i x.k x.t (x.a : Nat) (tokH_some hx) hno u hR).mono ?_
      rintro e w1 ⟨rfl, hb1⟩
      exact .inl ⟨(Option.some.inj hP).symm, h.R.le, rfl, Keeps.of_below hb1⟩
theorem pl_do : plainS W.do_ := ⟨_, _, rfl, rfl⟩
theorem pl_end : plainS W.end_ := ⟨_, _, rfl, rfl⟩
theorem pl_sc : plainS S.sc := ⟨_, _, rfl, rfl⟩
theorem pl_eq : plainS S.eq := ⟨_, _, rfl, rfl⟩
theorem pl_then : plainS W.then_ := ⟨_, _, rfl, rfl⟩
theorem pl_else : plainS W.else_ := ⟨_, _, rfl, rfl⟩
theorem pl_lc : plainS S.lc := ⟨_, _, rfl, rfl⟩
theorem pl_rc : plainS S.rc := ⟨_, _, rfl, rfl⟩
theorem pl_next : plainS W.next_ := ⟨_, _, rfl, rfl⟩

def BlkC (f : Nat) : Prop := ∀ (r : PRes) (B : Nat) (ts : List Tok) (i : Nat) (w : World), Ctx w B ts i → P f 7 (nd 4 []) 0 (rest ts i) = some r → Calls Tryz.prog 97 #[.pointer (some ⟨B, 0, none⟩)] w (PAns no w B ts r)
theorem res155 {tm : Array Value} {W : World} {B : Nat} {a b c d : Value} (h : tm[2]?.getD undef = .pointer (some ⟨B, 0, none⟩)) (hx : W.heap[B]? = some (.cells #[a, b, c, d] 24)) : (results Tryz.f155 tm).run Tryz.prog W = .ok (.agg #[a, b, c, d]) W := by
  obtain ⟨c0, c1, c2, c3, _, _, _, _⟩ := in4 hx
  simp [results, Tryz.results155, go_sem, h, c0, c1, c2, c3]
set_option maxRecDepth 20000 in
set_option maxHeartbeats 600000 in
theorem body_of (f : Nat) (hB : BlkC f) (r : PRes) (B : Nat) (ts : List Tok) (i : Nat) (w : World) (hC : Ctx w B ts i) (g : Nd → List PT → PR) (hP : need W.do_ (rest ts i) (fun l => (P f 7 (nd 4 []) 0 l).on fun b l => need W.end_ l fun l => g b l) = some r) : Calls Tryz.prog 155 #[.pointer (some ⟨B, 0, none⟩)] w (EU w B ts g r) := by
  have hBw := hC.R.lt
  have hb0 : Below w.heap.size w (w.alloc zbx) := ext_alloc (Below.refl _ _) _
  have h2 := alloc_new w zbx
  have hk0 : Keeps (fun k => k = B) w (w.alloc zbx) := Keeps.of_below hb0
  have hW1 := hC.wantsU pl_do hP _ hb0
  rw [World.size_alloc] at hW1
  clear hP
  go_enter Tryz.func155, Tryz.ntmps155
  go_wp2_with (first
    | (go_at_call 93; refine hW1.mono ?_; rintro e w1 (⟨rfl, hle, rfl, hk1⟩ | ⟨hP1, rfl, hR1, hk1⟩); (exact ⟨rfl, .inl ⟨i, rfl, hle, rfl, hk0.trans hk1⟩⟩); have hk1' := hk0.trans hk1; (try dsimp only at hP1))
    | (go_at_call 97; refine (callU hP1 (fun r0 h => hB r0 B ts (i + 1) _ (hC.on hR1) h)).mono ?_; rintro e w2 (⟨j, rfl, hle, rfl, hk2⟩ | ⟨n2, j, b2, cap2, hP2, rfl, hN2, hR2, hk2⟩); (exact ⟨rfl, .inl ⟨j, rfl, hle, rfl, hk1'.trans hk2⟩⟩); have hk2' := hk1'.trans hk2; (try dsimp only at hP2); refine Hid.out ?_))
  have g2 := hk2.box (hk1.box h2 (by omega)) (by omega)
  have hz1 : w.heap.size < w1.heap.size := block_lt (hk1.box h2 (by omega))
  have hb2 : Below w2.heap.size w2 (w2.alloc (nbx n2 b2 cap2)) := ext_alloc (Below.refl _ _) _
  have hW3 := (hC.on hR2).wantsU pl_end hP2 _ hb2
  rw [World.size_alloc] at hW3
  have g3 := alloc_new w2 (nbx n2 b2 cap2)
  have g2' := block_below hb2 g2
  have hz2 := hk2.size
  clear hP1 hP2 hW1 hR1 hk1 hk1' h2
  refine Lib.hid ?_
  go_wp2_with (go_at_call 93; refine hW3.mono ?_; rintro e w3 (⟨rfl, hle, rfl, hk3⟩ | ⟨hP3, rfl, hR3, hk3⟩); (exact ⟨rfl, .inl ⟨j, rfl, hle, rfl, (hk2'.trans (Keeps.of_below hb2)).trans hk3⟩⟩); have p3 := hk3.box g3 (by omega); have p2 := hk3.box g2' (by omega); obtain ⟨c0, c1, c2, c3, f0, f1, f2, f3⟩ := in4 p3; obtain ⟨d0, d1, d2, d3, e0, e1, e2, e3⟩ := in4 p2)
  refine bodyPost_ret (res155 rfl (put4_same _ _ _ _ p2)) rfl ?_
  refine .inr ⟨n2, j + 1, b2, cap2, hP3, rfl, ?_, hR3.put4 _ _ _ _ _ hBw, put4_keeps ((hk2'.trans (Keeps.of_below hb2)).trans hk3) _ _ _ _ _ (Nat.le_refl _)⟩
  exact (((hN2.below hb2).keep hk3 (fun q hq _ => by omega)).put4 _ _ _ _ _ (fun q hq => by omega)).weak (fun q hq _ => by omega)
end Go.Proofs.YtbofdfdmikhanaaGreatDoor
namespace Go.Proofs.YtbofdfdmikhanaaGreatDoor
open Go.RowKit
open Go

theorem close_pair {w : World} {B : Nat} {ts : List Tok} {x y : Nd} {b b1 : Option Addr} {cap cap1 : Nat} {j : Nat} {W : World} {a0 a1 a2 a3 : Value} (k n : Int) (hx : NdV (fun q => w.heap.size < q) W x (ndv x b cap)) (hy : NdV (fun q => w.heap.size < q) W y (ndv y b1 cap1)) (hR : Rd W B ts j) (hk : Keeps (fun k => k = B) w W) (hB : B < w.heap.size) (g : W.heap[w.heap.size]? = some (.cells #[a0, a1, a2, a3] 24)) :
    PAns no w B ts (.inr (⟨k, [], n, [x, y]⟩, rest ts j)) (.returned (ndv ⟨k, [], n, [x, y]⟩ (some ⟨W.heap.size, 0, none⟩) 2)) (put4 (W.alloc (.cells #[.int .i64 x.k, sk x.t, .int .i64 x.n, .slice b x.kids.length cap, .int .i64 y.k, sk y.t, .int .i64 y.n, .slice b1 y.kids.length cap1] 24)) w.heap.size (.int .i64 k) (sk []) (.int .i64 n) (.slice (some ⟨W.heap.size, 0, none⟩) 2 2)) := by
  obtain ⟨h1, h2, h3⟩ := pair_box k n hx hy (fun q hq => by omega) (block_lt g) g rfl
  exact ⟨j, _, 2, rfl, rfl, h1.weak (fun q hq _ => .inr (by omega)), hR.keep h3 (fun q hq => by omega), hk.then h3 (fun q hq e => by omega)⟩
theorem res139 {tm : Array Value} {W : World} {B : Nat} {a b c d : Value} (h : tm[2]?.getD undef = .pointer (some ⟨B, 0, none⟩)) (hx : W.heap[B]? = some (.cells #[a, b, c, d] 24)) : (results Tryz.f139 tm).run Tryz.prog W = .ok (.agg #[a, b, c, d]) W := by
  obtain ⟨c0, c1, c2, c3, _, _, _, _⟩ := in4 hx
  simp [results, Tryz.results139, go_sem, h, c0, c1, c2, c3]
set_option maxRecDepth 20000 in
set_option maxHeartbeats 1000000 in
theorem loop_of (f : Nat) (hE : ExprC f) (hB : BlkC f) (r : PRes) (B : Nat) (ts : List Tok) (i : Nat) (w : World) (hC : Ctx w B ts i) (hP : (P f 0 nil0 0 (rest ts i)).on (fun x l => need W.do_ l fun l => (P f 7 (nd 4 []) 0 l).on fun b l => need W.end_ l fun l => .ok (nd 9 [x, b]) l) = some r) : Calls Tryz.prog 139 #[.pointer (some ⟨B, 0, none⟩)] w (PAns no w B ts r) := by
  have hBw := hC.R.lt
  have hb0 : Below w.heap.size w (w.alloc zbx) := ext_alloc (Below.refl _ _) _
  have h2 := alloc_new w zbx
  have hk0 : Keeps (fun k => k = B) w (w.alloc zbx) := Keeps.of_below hb0
  have hc1 := callU hP (fun r0 h => hE r0 B ts i _ (hC.below hb0) h)
  clear hP
  go_enter Tryz.func139, Tryz.ntmps139
  go_wp2_with (go_at_call 154; refine hc1.mono ?_; rintro e w1 (⟨j, rfl, hle, rfl, hk1⟩ | ⟨n1, j, b1, cap1, hP1, rfl, hN1, hR1, hk1⟩); (exact ⟨rfl, close_pan rfl hle (hk0.trans hk1)⟩); (try dsimp only at hP1); refine Hid.out ?_)
  have g2 := hk1.box h2 (by omega)
  have hz1 := block_lt g2
  have hb1 : Below w1.heap.size w1 (w1.alloc (nbx n1 b1 cap1)) := ext_alloc (Below.refl _ _) _
  have g3 := alloc_new w1 (nbx n1 b1 cap1)
  have g2' := block_below hb1 g2
  have hkw := (hk0.trans hk1).trans (Keeps.of_below hb1)
  have hN1' : NdV (fun q => w.heap.size < q) (w1.alloc (nbx n1 b1 cap1)) n1 (ndv n1 b1 cap1) := (hN1.weak (fun q hq _ => by simp at hq; omega)).below hb1
  have hc2 := fun u h => body_of f hB r B ts j u h (fun b l => .ok (nd 9 [n1, b]) l) hP1
  have hC1 := (hC.on hR1).below hb1
  have hz3 : (w1.alloc (nbx n1 b1 cap1)).heap.size = w1.heap.size + 1 := World.size_alloc _ _
  obtain ⟨W1, hW1⟩ : ∃ W1, w1.alloc (nbx n1 b1 cap1) = W1 := ⟨_, rfl⟩
  rw [hW1] at g3 g2' hkw hN1' hC1 hz3
  obtain ⟨t, ht⟩ : ∃ t, w1.heap.size = t := ⟨_, rfl⟩
  clear hP1 hc1 hN1 hR1 hk1 h2 g2 hb1
  refine Lib.hid ?_
  go_wp2
  rw [ht] at g3 hz1 hz3
  clear hW1 ht
  obtain ⟨c0, c1, c2, c3, f0, f1, f2, f3⟩ := in4 g3
  go_region_with ((go_at_call 155; refine (hc2 _ (hC1.below ((Below.refl _ _).drew))).mono ?_; rintro e w2 (⟨j2, rfl, hle, rfl, hk2⟩ | ⟨n2, j2, b2, cap2, hP2, rfl, hN2, hR2, hk2⟩); (exact ⟨rfl, close_pan rfl hle ((hkw.drew).trans hk2)⟩); have g3 := hk2.box g3 (by omega); have g2 := hk2.box g2' (by omega); obtain ⟨c0, c1, c2, c3, f0, f1, f2, f3⟩ := in4 g3; obtain ⟨d0, d1, d2, d3, e0, e1, e2, e3⟩ := in4a g2))
  all_goals
    go_wp2
    refine bodyPost_ret (res139 rfl (put4_same _ _ _ _ (block_alloc _ g2))) rfl ?_
    obtain rfl := Option.some.inj hP2
    exact close_pair 9 0 ((hN1'.below ((Below.refl _ _).drew)).keep hk2 (fun q hq _ => by omega)) (hN2.weak (fun q hq _ => by simp at hq; omega)) hR2 ((hkw.drew).trans hk2) hBw g2
end Go.Proofs.YtbofdfdmikhanaaGreatDoor
namespace Go.Proofs.YtbofdfdmikhanaaGreatDoor
open Go.RowKit
open Go

/-- What an end in an expression leaves: the row ahead may have grown. -/
def GU (D : Nat → Prop) (va : Value) (w : World) (B : Nat) (ts : List Tok) (r : PRes) (e : Ending) (w' : World) : Prop :=
  (∃ j, r = .inl (rest ts j) ∧ j ≤ ts.length ∧ e = .panicked (pan (gv ts j)) ∧ Keeps (fun q => q = B ∨ some q = va.ownBlock) w w') ∨
  (∃ N j b cap, r = .inr (N, rest ts j) ∧ e = .returned (ndv N b cap) ∧ NdV (fun g => D g ∨ w.heap.size ≤ g) w' N (ndv N b cap) ∧ Rd w' B ts j ∧ Keeps (fun q => q = B ∨ some q = va.ownBlock) w w')
theorem res141 {tm : Array Value} {W : World} {B : Nat} {a b c d : Value} (h : tm[6]?.getD undef = .pointer (some ⟨B, 0, none⟩)) (hx : W.heap[B]? = some (.cells #[a, b, c, d] 24)) : (results Tryz.f141 tm).run Tryz.prog W = .ok (.agg #[a, b, c, d]) W := by
  obtain ⟨c0, c1, c2, c3, _, _, _, _⟩ := in4 hx
  simp [results, Tryz.results141, go_sem, h, c0, c1, c2, c3]
theorem Keeps.orB {B : Nat} {T : Nat → Prop} {w W : World} (h : Keeps (fun k => k = B) w W) : Keeps (fun q => q = B ∨ T q) w W := h.mono (fun _ _ h => .inl h)
set_option maxRecDepth 20000 in
set_option maxHeartbeats 2000000 in
theorem given_of (f : Nat) (hE : ExprC f) (k : Int) (D : Nat → Prop) (ks : List Nd) (bv : Option Addr) (cv : Nat) (r : PRes) (B : Nat) (ts : List Tok) (i : Nat) (w : World) (hC : Ctx w B ts i) (hRow : Row D w (.slice bv ks.length cv) ks) (hD : ∀ g, D g → g ≠ B) (hlo : ∀ g, Value.ownBlock (.slice bv ks.length cv) = some g → B < g) (hl : ks.length ≤ 4)
    (hP : (P f 0 nil0 0 (rest ts i)).on (fun x l => need S.sc l fun l => .ok ⟨k, [], 0, ks ++ [x]⟩ l) = some r) : Calls Tryz.prog 141 #[.pointer (some ⟨B, 0, none⟩), .int .i64 k, .slice bv ks.length cv] w (GU D (.slice bv ks.length cv) w B ts r) := by
  obtain ⟨i0, hi0, hz0, hz1, hz2⟩ := info_parts info24
  have hBw := hC.R.lt
  have hb0 : Below w.heap.size w (w.alloc zbx) := ext_alloc (Below.refl _ _) _
  have h2 := alloc_new w zbx
  have hk0 : Keeps (fun k => k = B) w (w.alloc zbx) := Keeps.of_below hb0
  have hc1 := callU hP (fun r0 h => hE r0 B ts i _ (hC.below hb0) h)
  obtain ⟨_, _, _, hform⟩ := hRow.form
  have hn1 : ks.length + 1 ≤ maxLen := by unfold maxLen; omega
  have hn2 : (ks.length + 1) * 56 ≤ 140737488355328 := by omega
  replace hform : Hid _ := hform
  replace hlo : Hid _ := hlo
  clear hP
  go_enter Tryz.func141, Tryz.ntmps141
  go_wp2_with (first | (go_at_call 154; refine hc1.mono ?_; rintro e w1 (⟨j, rfl, hle, rfl, hk1⟩ | ⟨n1, j, b1, cap1, hP1, rfl, hN1, hR1, hk1⟩); (exact ⟨rfl, .inl ⟨j, rfl, hle, rfl, (hk0.trans hk1).orB⟩⟩); (try dsimp only at hP1)) | (at_builtin; refine Hid.out ?_))
  have g2 := hk1.box h2 (by omega)
  have hzw := block_lt g2
  have hkw := hk0.trans hk1
  have hb1 : Below w1.heap.size w1 (w1.alloc (nbx n1 b1 cap1)) := ext_alloc (Below.refl _ _) _
  have gn := alloc_new w1 (nbx n1 b1 cap1)
  have g2' := block_below hb1 g2
  have hRow1 : Row (fun g => (D g ∨ w.heap.size ≤ g) ∧ g ≠ w.heap.size) (w1.alloc (nbx n1 b1 cap1)) (.slice bv ks.length cv) ks := (((hRow.weak (S' := fun g => D g ∧ g < w.heap.size) (fun g hg hlt => ⟨hg, hlt⟩)).keep hkw (fun g hg _ => hD g hg.1)).weak (fun g hg _ => ⟨.inl hg.1, by omega⟩)).below hb1
  obtain ⟨xs, ho, hs, hn⟩ := hRow1.own
  have hR1' := hR1.below hb1
  have hN1' : NdV (fun q => w.heap.size < q) (w1.alloc (nbx n1 b1 cap1)) n1 (ndv n1 b1 cap1) := (hN1.weak (fun q hq _ => by simp at hq; omega)).below hb1
  have hszz : (w1.alloc (nbx n1 b1 cap1)).heap.size = w1.heap.size + 1 := World.size_alloc _ _
  obtain ⟨W1, hW1⟩ : ∃ W1, w1.alloc (nbx n1 b1 cap1) = W1 := ⟨_, rfl⟩
  have hkw1 := hkw.trans (Keeps.of_below hb1)
  rw [hW1] at gn g2' ho hn hR1' hN1' hszz hkw1
  dsimp only [nbx] at hW1
  rw [hW1]
  clear hb1 hW1 hc1 hk1 hN1 hR1 hRow1 g2
  refine Lib.hid ?_
  go_wp2_with (first
    | (at_builtin; refine wpList_append_lies _ (by rfl) _ _ _ (by rfl) 0 24 i0 _ 4 56 Tryz.underlying22 hi0 hz0 hz1 hz2 rfl (by omega) (.slice bv ks.length cv) ks.length xs (by rfl) ho ⟨w1.heap.size, 0, none⟩ 1 1 _ (by rfl) (by rfl) (cells_of n1 b1 cap1 gn) (by simp [Value.oneCell']) (by omega) hn1 hn2 (Nat.zero_le _) _ rfl ?_; intro g3 cap3 w3 hown3 hgrow hat hlt3)
    | (go_at_call 93; refine Hid.out ?_))
  have hy : NdV (fun q => ((D q ∨ w.heap.size ≤ q) ∧ q ≠ w.heap.size) ∧ some q ≠ Value.ownBlock (.slice bv ks.length cv)) W1 n1 (ndv n1 b1 cap1) := hN1'.weak (fun q hq _ => ⟨⟨.inr (by omega), by omega⟩, fun e => by have := (hform.out q e.symm).2; omega⟩)
  have hRow3 := Row.snoc ho hs hn hy hown3 hgrow hat (fun q hq => ⟨.inr (by omega), by omega⟩)
  have el : (ks ++ [n1]).length = ks.length + 1 := by simp
  rw [← el] at hRow3
  have hkg : Keeps (fun q => q = B ∨ some q = Value.ownBlock (.slice bv ks.length cv)) w w3 := hkw1.orB.then (Keeps.grown hgrow) (fun q _ h => .inr h)
  have g23 := (hgrow.block _ (block_lt g2') (fun e => by have := (hform.out _ e.symm).2; omega)).trans g2'
  have hR3 := hR1'.keep (Keeps.grown hgrow) (fun q hq e => by have := hlo.out q e.symm; omega)
  have hz3 : w1.heap.size + 1 ≤ w3.heap.size := by have := hgrow.size; omega
  obtain ⟨N, hN⟩ : ∃ N : Nd, N = ⟨k, [], 0, ks ++ [n1]⟩ := ⟨_, rfl⟩
  have hb3 : Below w3.heap.size w3 (w3.alloc (nbx N (some ⟨g3, 0, none⟩) cap3)) := ext_alloc (Below.refl _ _) _
  have g7 := alloc_new w3 (nbx N (some ⟨g3, 0, none⟩) cap3)
  have g23' := block_below hb3 g23
  have hC3 := (hC.on hR3).below hb3
  have hNd3 : NdV (fun g => (D g ∨ w.heap.size ≤ g) ∧ g ≠ w.heap.size) (w3.alloc (nbx N (some ⟨g3, 0, none⟩) cap3)) N (ndv N (some ⟨g3, 0, none⟩) cap3) := by
    subst hN
    exact (hRow3.node k [] 0).below hb3
  have hW5 := hC3.wantsU pl_sc hP1 _ (Below.refl _ _)
  rw [World.size_alloc] at hW5
  have hobj : nbx N (some ⟨g3, 0, none⟩) cap3 = .cells #[.int .i64 k, .string ⟨#[]⟩, .int .i64 0, .slice (some ⟨g3, 0, none⟩) (ks.length + 1) cap3] 24 := by
    subst hN
    rw [← el]
  rw [← hN] at hW5
  have hkg3 := hkg.trans (Keeps.of_below hb3)
  have hsz5 : (w3.alloc (nbx N (some ⟨g3, 0, none⟩) cap3)).heap.size = w3.heap.size + 1 := World.size_alloc _ _
  rw [hobj] at hW5
  replace hobj : Hid _ := hobj
  replace hN : Hid _ := hN
  clear el hown3 hgrow hat hlt3 ho hs hn hy hRow3 hR3 g23 gn g2' hR1' hN1' hkw1 hkg hP1
  refine Lib.hid ?_
  go_wp2_with (go_at_call 93; refine hW5.mono ?_; rintro e w5 (⟨rfl, hle, rfl, hk5⟩ | ⟨hP5, rfl, hR5, hk5⟩); (rw [← hobj.out] at hk5; exact ⟨rfl, .inl ⟨j, rfl, hle, rfl, hkg3.trans hk5.orB⟩⟩); rw [← hobj.out] at hk5; have p7 := hk5.box g7 (by omega); have p6 := hk5.box g23' (by omega); obtain ⟨c0, c1, c2, c3, f0, f1, f2, f3⟩ := in4 p7; obtain ⟨d0, d1, d2, d3, e0, e1, e2, e3⟩ := in4 p6)
  refine bodyPost_ret (res141 rfl (put4_same _ _ _ _ p6)) rfl ?_
  have hNd5 := hNd3.keep hk5 (fun g hg _ => by rcases hg.1 with h | h; exact hD g h; omega)
  refine .inr ⟨N, j + 1, some ⟨g3, 0, none⟩, cap3, (Option.some.inj hP5).symm, rfl, ?_, hR5.put4 _ _ _ _ _ hBw, put4_keeps (hkg3.trans hk5.orB) _ _ _ _ _ (Nat.le_refl _)⟩
  exact (hNd5.put4 _ _ _ _ _ (fun g hg => hg.2)).weak (fun g hg _ => hg.1)
end Go.Proofs.YtbofdfdmikhanaaGreatDoor
namespace Go.Proofs.YtbofdfdmikhanaaGreatDoor
open Go.RowKit
open Go

theorem NdV.text {D : Nat → Prop} {W : World} {k : Int} {t : List UInt8} {n : Int} {ks : List Nd} {b : Option Addr} {cap : Nat} (h : NdV D W ⟨k, t, n, ks⟩ (ndv ⟨k, t, n, ks⟩ b cap)) (s : List UInt8) : NdV D W ⟨k, s, n, ks⟩ (ndv ⟨k, s, n, ks⟩ b cap) := by
  obtain ⟨b', cap', e, h4, h5⟩ := h.form
  simp only [Value.agg.injEq, Array.mk.injEq, List.cons.injEq, Value.slice.injEq, true_and, and_true] at e
  obtain ⟨rfl, rfl⟩ := e
  exact ndV_mk h4 h5
theorem given_text {f : Nat} {l : List PT} {k : Int} {s : List UInt8} {r : PRes} (h : (P f 0 nil0 0 l).on (fun x l => need S.sc l fun l => .ok ⟨k, s, 0, [x]⟩ l) = some r) :
    ∃ r', (P f 0 nil0 0 l).on (fun x l => need S.sc l fun l => .ok ⟨k, [], 0, [] ++ [x]⟩ l) = some r' ∧ ((∃ l1, r' = .inl l1 ∧ r = .inl l1) ∨ ∃ x l1, r' = .inr (⟨k, [], 0, [x]⟩, l1) ∧ r = .inr (⟨k, s, 0, [x]⟩, l1)) := by
  obtain ⟨r0, h0, h1⟩ := on_some h
  rw [h0]
  rcases h1 with ⟨l1, rfl, rfl⟩ | ⟨n, l1, rfl, h1⟩
  · exact ⟨.inl l1, rfl, .inl ⟨l1, rfl, rfl⟩⟩
  · rcases need_some h1 with ⟨hy, h2⟩ | ⟨hy, rfl⟩
    · refine ⟨.inr (⟨k, [], 0, [n]⟩, l1.tail), ?_, .inr ⟨n, l1.tail, rfl, (Option.some.inj h2).symm⟩⟩
      show need S.sc l1 _ = _
      unfold need
      rw [if_pos hy]
      rfl
    · refine ⟨.inl l1, ?_, .inl ⟨l1, rfl, rfl⟩⟩
      show need S.sc l1 _ = _
      unfold need
      rw [if_neg hy]
theorem given_nil (f : Nat) (hE : ExprC f) (k : Int) (r : PRes) (B : Nat) (ts : List Tok) (i : Nat) (w : World) (hC : Ctx w B ts i) (hP : (P f 0 nil0 0 (rest ts i)).on (fun x l => need S.sc l fun l => .ok ⟨k, [], 0, [] ++ [x]⟩ l) = some r) : Calls Tryz.prog 141 #[.pointer (some ⟨B, 0, none⟩), .int .i64 k, .slice none 0 0] w (PAns no w B ts r) := by
  refine (given_of f hE k no [] none 0 r B ts i w hC (Row.nil _ _) (fun g h => h.elim) (fun g h => by simp [Value.ownBlock] at h) (by simp) hP).mono ?_
  intro e w' hA
  have hT : ∀ {a b : World}, Keeps (fun q => q = B ∨ some q = Value.ownBlock (.slice none ([] : List Nd).length 0)) a b → Keeps (fun q => q = B) a b := fun h => h.mono (fun q _ h => h.resolve_right (by simp [Value.ownBlock]))
  rcases hA with ⟨j, rfl, hle, rfl, hk⟩ | ⟨N, j, b, cap, rfl, rfl, hN, hR, hk⟩
  · exact close_pan rfl hle (hT hk)
  · exact ⟨j, b, cap, rfl, rfl, hN, hR, hT hk⟩
theorem res137 {tm : Array Value} {W : World} {B : Nat} {a b c d : Value} (h : tm[2]?.getD undef = .pointer (some ⟨B, 0, none⟩)) (hx : W.heap[B]? = some (.cells #[a, b, c, d] 24)) : (results Tryz.f137 tm).run Tryz.prog W = .ok (.agg #[a, b, c, d]) W := by
  obtain ⟨c0, c1, c2, c3, _, _, _, _⟩ := in4 hx
  simp [results, Tryz.results137, go_sem, h, c0, c1, c2, c3]
set_option maxRecDepth 20000 in
set_option maxHeartbeats 1000000 in
theorem local_of (f : Nat) (hE : ExprC f) (r : PRes) (B : Nat) (ts : List Tok) (i : Nat) (w : World) (hC : Ctx w B ts i) (hP : needName (rest ts i) (fun s l => need S.eq l fun l => (P f 0 nil0 0 l).on fun x l => need S.sc l fun l => .ok ⟨5, s, 0, [x]⟩ l) = some r) : Calls Tryz.prog 137 #[.pointer (some ⟨B, 0, none⟩)] w (PAns no w B ts r) := by
  have hBw := hC.R.lt
  have hb0 : Below w.heap.size w (w.alloc zbx) := ext_alloc (Below.refl _ _) _
  have h2 := alloc_new w zbx
  have hk0 : Keeps (fun k => k = B) w (w.alloc zbx) := Keeps.of_below hb0
  have hc1 := hC.nameU hP _ hb0
  clear hP
  go_enter Tryz.func137, Tryz.ntmps137
  go_wp2_with (first
    | (go_at_call 94; refine hc1.mono ?_; rintro e w1 (⟨rfl, hle, rfl, hk1⟩ | ⟨s, hP1, rfl, hR1, hk1⟩); (exact ⟨rfl, close_pan rfl hle (hk0.trans hk1)⟩); (try dsimp only at hP1); have hk1' := hk0.trans hk1; have g1 := hk1.box h2 (by omega))
    | (go_at_call 93; refine ((hC.on hR1).wantsU pl_eq hP1 _ (Below.refl _ _)).mono ?_; rintro e w2 (⟨rfl, hle, rfl, hk2⟩ | ⟨hP2, rfl, hR2, hk2⟩); (exact ⟨rfl, close_pan rfl hle (hk1'.trans hk2)⟩); (try dsimp only at hP2); have hk2' := hk1'.trans hk2; have g2 := hk2.box g1 (by omega); obtain ⟨r', hr', hrr⟩ := given_text hP2; have hc3 := given_nil f hE 5 r' B ts _ _ (hC.on hR2) hr'; replace hrr : Hid _ := hrr; clear hr' hP2)
    | (go_at_call 141; refine hc3.mono ?_; intro e w3 hA; rcases r' with l1 | ⟨n3, l1⟩; (obtain ⟨j, rfl, hle, rfl, hk3⟩ := hA; rcases hrr.out with ⟨l, e1, e2⟩ | ⟨n, l, e1, _⟩; (cases e1; subst e2; exact ⟨rfl, close_pan rfl hle (hk2'.trans hk3)⟩); cases e1); obtain ⟨j, b3, cap3, hj, rfl, hN3, hR3, hk3⟩ := hA; have hk3' := hk2'.trans hk3; have g3 := hk3.box g2 (by omega); refine Hid.out ?_))
  rcases hrr.out with ⟨l, e1, _⟩ | ⟨x, l, e1, hre⟩
  · cases e1
  cases e1
  subst hre
  obtain ⟨d0, d1, d2, d3, e0, e1, e2, e3⟩ := in4a g3
  have hzw := block_lt g1
  have hz2 := hk2.size
  clear hrr hc1 hc3 hP1 h2
  refine Lib.hid ?_
  go_wp2
  refine bodyPost_ret (res137 rfl (put4_same _ _ _ _ (block_alloc _ g3))) rfl ?_
  have hb3 : Below w3.heap.size w3 (w3.alloc (nbx ⟨5, s, 0, [x]⟩ b3 cap3)) := ext_alloc (Below.refl _ _) _
  exact close_ret (N := ⟨5, s, 0, [x]⟩) hj ((hN3.text s).below hb3 |>.weak (fun q hq _ => by rcases hq with hq | hq; exact hq.elim; exact ⟨.inr (by omega), by omega⟩)) (hR3.below hb3) (hk3'.trans (Keeps.of_below hb3)) (Nat.le_refl _) hBw
end Go.Proofs.YtbofdfdmikhanaaGreatDoor
