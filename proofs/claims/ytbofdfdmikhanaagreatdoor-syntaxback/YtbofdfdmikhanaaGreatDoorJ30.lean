/- The program's reader: what an expression is made of. The document's reader: what stands first: a number. -/
import Derived.Test.YtbofdfdmikhanaaGreatDoorJ29
import Derived.Test.YtbofdfdmikhanaaGreatDoorJ22
namespace Go.Proofs.YtbofdfdmikhanaaGreatDoor
open Go.RowKit
open Go

theorem num_valid {t : List UInt8} (h : valid (2, t)) : Lib.parseIntB 64 t = .ok (numV t : Int) ∧ t.length ≤ 4000 := by
  have h1 := h.1
  have hb : bytesOf (2, t) = t := by unfold bytesOf; rw [if_neg (show ¬ (2 : Int) = 3 by decide)]
  rw [hb] at h1
  simp only at h1
  cases t with
  | nil => simp [tokR] at h1
  | cons c r =>
    unfold tokR at h1
    simp only at h1
    split at h1
    · split at h1
      · cases h1
      · exact absurd (TokR.inj h1).1 (by decide)
    split at h1
    · split at h1
      · rename_i hn
        obtain ⟨_, _, e3⟩ := TokR.inj h1
        rw [e3, List.take_length] at hn
        unfold numE at hn
        split at hn
        · exact absurd hn (by decide)
        rename_i ha
        split at hn
        · exact absurd hn (by decide)
        rename_i h0
        split at hn
        · exact absurd hn (by decide)
        rename_i hm
        have ha' : (c :: r).all digB = true := by simpa using ha
        refine ⟨by rw [parse_digits _ (by simp) ha', if_neg hm], ?_⟩
        have : ¬ 19 < (c :: r).length := fun h => hm ((num_big _ ha' h0).2 (.inl h))
        omega
      · cases h1
    split at h1
    · split at h1
      · split at h1
        · cases h1
        · exact absurd (TokR.inj h1).1 (by decide)
      · cases h1
    split at h1
    · cases h1
    · exact absurd (TokR.inj h1).1 (by decide)

theorem atom_look (s : List UInt8) : atomsKV.lookup s = if s = W.nil_ then some (ik 15) else if s = W.true_ then some (ik 16) else if s = W.false_ then some (ik 17) else none := by
  unfold atomsKV
  simp only [List.lookup_cons, List.lookup_nil]
  by_cases h1 : s = W.nil_
  · subst h1; rfl
  by_cases h2 : s = W.true_
  · subst h2; rfl
  by_cases h3 : s = W.false_
  · subst h3; rfl
  rw [if_neg h1, if_neg h2, if_neg h3, beq_false_of_ne h1, beq_false_of_ne h2, beq_false_of_ne h3]
theorem wd_some {ts : List Tok} {i : Nat} {x : Tok} (h : ts[i]? = some x) (h3 : ¬ x.k = 3) : wd ts i = x.t := by
  unfold wd; rw [h]; simp only; rw [if_neg h3]
/-- What is read if it is no such token. -/
def afterLit (f : Nat) (l : List PT) : PR :=
  if tx l = S.lc then need S.rc l.tail fun l => .ok (nd 19 []) l
  else if tx l = W.next_ then need S.lp l.tail fun l => (P f 0 nil0 0 l).on fun x l => need S.cm l fun l => (P f 0 nil0 0 l).on fun y l => need S.rp l fun l => .ok (nd 26 [x, y]) l
  else if tx l = S.lp then (P f 0 nil0 0 l.tail).on fun n l => need S.rp l fun l => .ok n l
  else needName l fun s l => .ok ⟨18, s, 0, []⟩ l
theorem lit_any (f : Nat) (r : PRes) (B : Nat) (ts : List Tok) (i : Nat) (w : World) (hC : Ctx w B ts i) (hP : P (f + 1) 3 nil0 0 (rest ts i) = some r) :
    (∃ N, r = .inr (N, rest ts (i + 1)) ∧ N.kids = [] ∧ ∀ u, Ctx u B ts i → Calls Tryz.prog 179 #[.pointer (some ⟨B, 0, none⟩)] u (LU u B ts N true (i + 1))) ∨
    (∃ q, afterLit f (rest ts i) = some r ∧ ∀ u, Ctx u B ts i → Calls Tryz.prog 179 #[.pointer (some ⟨B, 0, none⟩)] u (LU u B ts (nd q []) false i)) := by
  cases hx : ts[i]? with
  | none =>
    have hre := rest_end (List.getElem?_eq_none_iff.1 hx)
    have hwd : wd ts i = [] := by unfold wd; rw [hx]
    refine .inr ⟨0, ?_, fun u hu => lit_none B ts i 0 [] 0 u hu (tokH_none hx) (by decide) (by decide) 0 (by rw [hwd]; rfl) (by rw [hwd]; rfl)⟩
    rw [hre] at hP ⊢
    rw [P] at hP
    unfold afterLit
    rw [if_neg (by decide), if_neg (by decide), if_neg (by decide)]
    unfold needName
    rw [if_neg (by decide)]
    exact hP
  | some x =>
    have hre := rest_cons hx
    have hi := (List.getElem?_eq_some_iff.1 hx).1
    have hv : valid (pt x) := hC.V (pt x) (List.mem_map.2 ⟨x, List.mem_of_getElem? hx, rfl⟩)
    have hVx := tokH_some hx
    rw [hre] at hP
    rw [P] at hP
    simp only at hP
    by_cases h2 : x.k = 2
    · rw [if_pos h2] at hP
      obtain rfl := Option.some.inj hP
      have hv2 : valid (2, x.t) := by rw [← h2]; exact hv
      obtain ⟨hp, hl⟩ := num_valid hv2
      have hd : ∃ c r', x.t = c :: r' ∧ digB c = true := by
        rcases kinds_of_valid hv2 with ⟨h, _⟩ | ⟨_, h⟩ | h | ⟨h, _⟩
        · omega
        · exact h
        · omega
        · omega
      have hn : atomsKV.lookup (wd ts i) = none := by
        rw [wd_some hx (by omega), atom_look]
        obtain ⟨c, r', e, hd⟩ := hd
        rw [e]
        have q : ∀ a b, digB a = false → ¬ c :: r' = a :: b := fun a b h e => by
          have := (List.cons.inj e).1
          subst this
          rw [h] at hd; cases hd
        rw [if_neg (q _ _ rfl), if_neg (q _ _ rfl), if_neg (q _ _ rfl)]
      exact .inl ⟨_, rfl, rfl, fun u hu => lit_num B ts i x.t (x.a : Nat) u hu (by rw [hVx, h2]) hi hl _ hp 0 false (by rw [hn]; rfl) (by rw [hn]; rfl)⟩
    rw [if_neg h2] at hP
    by_cases h3 : x.k = 3
    · rw [if_pos h3] at hP
      obtain rfl := Option.some.inj hP
      have hw : wd ts i = [] := by unfold wd; rw [hx]; simp only; rw [if_pos h3]
      exact .inl ⟨_, rfl, rfl, fun u hu => lit_text B ts i x.t (x.a : Nat) u hu (by rw [hVx, h3]) hi 0 false (by rw [hw]; rfl) (by rw [hw]; rfl)⟩
    rw [if_neg h3] at hP
    have htx : tx (pt x :: rest ts (i + 1)) = x.t := by unfold tx; simp only; rw [if_neg (by omega)]
    have hw := wd_some hx h3
    rw [htx] at hP
    have atom := fun q (hq : atomsKV.lookup x.t = some (ik q)) u hu => lit_atom B ts i x.k x.t (x.a : Nat) u hu hVx h2 h3 hi q (by rw [hw, hq]; rfl) (by rw [hw, hq]; rfl)
    by_cases a1 : x.t = W.nil_
    · refine .inl ⟨_, ?_, rfl, atom 15 (by rw [atom_look, if_pos a1])⟩
      rw [a1, if_neg (by decide), if_pos rfl] at hP
      exact (Option.some.inj hP).symm
    by_cases a2 : x.t = W.true_
    · refine .inl ⟨_, ?_, rfl, atom 16 (by rw [atom_look, if_neg a1, if_pos a2])⟩
      rw [a2, if_neg (by decide), if_neg (by decide), if_pos rfl] at hP
      exact (Option.some.inj hP).symm
    by_cases a3 : x.t = W.false_
    · refine .inl ⟨_, ?_, rfl, atom 17 (by rw [atom_look, if_neg a1, if_neg a2, if_pos a3])⟩
      rw [a3, if_neg (by decide), if_neg (by decide), if_neg (by decide), if_pos rfl] at hP
      exact (Option.some.inj hP).symm
    have hn : atomsKV.lookup (wd ts i) = none := by rw [hw, atom_look, if_neg a1, if_neg a2, if_neg a3]
    refine .inr ⟨0, ?_, fun u hu => lit_none B ts i x.k x.t (x.a : Nat) u hu hVx h2 h3 0 (by rw [hn]; rfl) (by rw [hn]; rfl)⟩
    rw [if_neg a1, if_neg a2, if_neg a3] at hP
    rw [hre]
    unfold afterLit
    rw [htx, List.tail_cons]
    by_cases b1 : x.t = S.lc
    · rw [b1, if_neg (by decide), if_pos rfl] at hP
      rw [if_pos b1]; exact hP
    by_cases b2 : x.t = W.next_
    · rw [b2, if_neg (by decide), if_neg (by decide), if_pos rfl] at hP
      rw [if_neg b1, if_pos b2]; exact hP
    by_cases b3 : x.t = S.lp
    · rw [if_pos b3] at hP
      rw [if_neg b1, if_neg b2, if_pos b3]; exact hP
    rw [if_neg b3, if_neg b1, if_neg b2] at hP
    rw [if_neg b1, if_neg b2, if_neg b3]; exact hP
end Go.Proofs.YtbofdfdmikhanaaGreatDoor
namespace Go.Proofs.YtbofdfdmikhanaaGreatDoor
open Go.RowKit
open Go

theorem num_valid2 {t : List UInt8} (h : valid (2, t)) : t.all digB = true ∧ numV t ≤ 9223372036854775807 ∧ t.length ≤ 4000 := by
  obtain ⟨hp, hl⟩ := num_valid h
  have h1 := h.1
  have hb : bytesOf (2, t) = t := by unfold bytesOf; rw [if_neg (show ¬ (2 : Int) = 3 by decide)]
  rw [hb] at h1
  simp only at h1
  cases t with
  | nil => simp [tokR] at h1
  | cons c r =>
    unfold tokR at h1
    simp only at h1
    split at h1
    · split at h1
      · cases h1
      · exact absurd (TokR.inj h1).1 (by decide)
    split at h1
    · split at h1
      · rename_i hn
        obtain ⟨_, _, e3⟩ := TokR.inj h1
        rw [e3, List.take_length] at hn
        unfold numE at hn
        split at hn
        · exact absurd hn (by decide)
        rename_i ha
        split at hn
        · exact absurd hn (by decide)
        split at hn
        · exact absurd hn (by decide)
        rename_i hm
        exact ⟨by simpa using ha, by omega, hl⟩
      · cases h1
    split at h1
    · split at h1
      · split at h1
        · cases h1
        · exact absurd (TokR.inj h1).1 (by decide)
      · cases h1
    split at h1
    · cases h1
    · exact absurd (TokR.inj h1).1 (by decide)
theorem fold_ge (l : List UInt8) : ∀ a : Nat, a ≤ l.foldl (fun a c => a * 10 + (c.toNat - 48)) a := by
  induction l with
  | nil => intro a; exact Nat.le_refl _
  | cons c l ih => intro a; exact Nat.le_trans (show a ≤ a * 10 + (c.toNat - 48) by omega) (ih _)
theorem num_take (t : List UInt8) (j : Nat) : numV (t.take j) ≤ numV t := by
  have : numV t = (t.drop j).foldl (fun a c => a * 10 + (c.toNat - 48)) (numV (t.take j)) := by
    unfold numV
    rw [← List.foldl_append, List.take_append_drop]
  rw [this]
  exact fold_ge _ _
theorem num_next {t : List UInt8} {j : Nat} {c : UInt8} (h : t[j]? = some c) : numV (t.take (j + 1)) = numV (t.take j) * 10 + (c.toNat - 48) := by
  rw [List.take_add_one, h]
  unfold numV
  rw [List.foldl_append]
  rfl
set_option maxRecDepth 20000 in
set_option maxHeartbeats 2000000 in
theorem fst_num (B : Nat) (ts : List Tok) (i : Nat) (t : List UInt8) (a : Nat) (hx : ts[i]? = some ⟨2, t, a⟩) (r : PRes) (Fin : Nat → Prop) (g : Nd → List PT → PR) (w : World) (hF : FinOK ts Fin r) (hR : Dr w B ts i false) (hv : valid (2, t)) (hP : g ⟨13, [], numOf t, []⟩ (rest ts (i + 1)) = some r) : Calls Tryz.prog 157 #[.pointer (some ⟨B, 0, none⟩)] w (NA no w B ts Fin r g) := by
  have hb0 : Below w.heap.size w (w.alloc zbx) := ext_alloc (Below.refl _ _) _
  have hBw := hR.lt
  have hR0 := hR.below hb0
  have h2 := alloc_new w zbx
  obtain ⟨b, cap, h1, ht, hcap⟩ := hR0.box
  obtain ⟨s0, s1, s2, v1, v2⟩ := drC h1
  have hs := hR.short
  obtain ⟨hi, _⟩ := List.getElem?_eq_some_iff.1 hx
  rcases ht with rfl | ⟨q, rfl, hg, hgw, hcells⟩
  · simp at hx
  have t0 : (w.alloc zbx).cell? ⟨q, i * 3, none⟩ = some (.int .i64 2) := hcells i _ hx 0 _ rfl
  have t1 := hcells i _ hx 1 _ rfl
  have t2 := hcells i _ hx 2 _ rfl
  dsimp only at t1 t2
  obtain ⟨n, hn⟩ : ∃ n, ts.length = n := ⟨_, rfl⟩
  rw [hn] at s0 hi hs hcap
  have hi' : (i : Int) < (n : Int) := by omega
  have hge : decide (n ≤ i) = false := decide_eq_false (by omega)
  obtain ⟨U, hU⟩ : ∃ U, w.alloc zbx = U := ⟨_, rfl⟩
  rw [hU] at hb0 hR0 h2 s0 s1 s2 v1 v2 t0 t1 t2
  replace hU : w.alloc (.cells #[.int .i64 0, .string ⟨#[]⟩, .int .i64 0, .slice none 0 0] 24) = U := hU
  have hqU : q < U.heap.size := World.block_lt_of_cell? _ _ t0
  have hBU : B < U.heap.size := World.block_lt_of_cell? _ _ s0
  have m1 : ¬ B = U.heap.size := by omega
  have m2 : ¬ U.heap.size = B := by omega
  have m3 : ¬ q = U.heap.size := by omega
  have m4 : ¬ U.heap.size = q := by omega
  clear hcells hx h1
  go_enter Tryz.func157, Tryz.ntmps157
  go_wp2
  go_quiet (fail)
  go_wp2
  have hd : Below U.heap.size U (U.drewN nq) := drewN_below (Below.refl _ _)
  have hRX := hR0.below hd
  have h2X := block_below hd h2
  have hbX := ext_trans hb0 hd
  have S0 := cellB hd s0
  have S1 := cellB hd s1
  have T0 := cellB hd t0
  have T1 := cellB hd t1
  have T2 := cellB hd t2
  have esz : (U.drewN nq).heap.size = U.heap.size := rfl
  obtain ⟨X, hX⟩ : ∃ X, U.drewN nq = X := ⟨_, rfl⟩
  rw [hX] at hRX h2X hbX S0 S1 T0 T1 T2 esz
  rw [hX]
  rw [← esz] at m1 m2 m3 m4
  clear hX hd s0 s1 s2 v1 v2 t0 t1 t2 hR0 h2 hb0 hqU hBU esz hU
  go_region_held3 (fun u => u.cell? ⟨B, 0, none⟩ = some (.slice (some ⟨q, 0, none⟩) n cap) ∧ u.cell? ⟨B, 1, none⟩ = some (.int .i64 (i : Nat)) ∧ u.cell? ⟨q, i * 3, none⟩ = some (.int .i64 2) ∧ u.cell? ⟨q, i * 3 + 1, none⟩ = some (.string ⟨t.toArray⟩) ∧ u.cell? ⟨q, i * 3 + 2, none⟩ = some (.int .i64 (a : Nat))) (go_keep) (fail)
  have hb4 := (ext_alloc (Below.refl X.heap.size X) (tbx 2 ⟨t.toArray⟩ (a : Nat))).drew
  have gT : (X.alloc (tbx 2 ⟨t.toArray⟩ (a : Nat))).drew.heap[X.heap.size]? = some (tbx 2 ⟨t.toArray⟩ (a : Nat)) := alloc_new X _
  have hRY := hRX.below hb4
  have h2Y := block_below hb4 h2X
  have hbY := ext_trans hbX hb4
  have hzY := block_lt h2X
  obtain ⟨Y, hY⟩ : ∃ Y, (X.alloc (tbx 2 ⟨t.toArray⟩ (a : Nat))).drew = Y := ⟨_, rfl⟩
  rw [hY] at hb4 gT hRY h2Y hbY
  replace hY : (X.alloc (.cells #[.int .i64 2, .string ⟨t.toArray⟩, .int .i64 (a : Nat)] 44)).drew = Y := hY
  rw [hY]
  obtain ⟨tb, htb⟩ : ∃ m, X.heap.size = m := ⟨_, rfl⟩
  rw [htb] at gT hzY m1 m2
  rw [htb]
  clear hY htb hb4 hRX h2X hbX S0 S1 T0 T1 T2 m3 m4
  obtain ⟨u0, u1⟩ := box44 gT
  obtain ⟨b', cap', s0, s1, s2, v1, v2⟩ := hRY.cells
  obtain ⟨d0, d1, d2, d3, e0, e1, e2, e3⟩ := in4 h2Y
  refine Lib.hid ?_
  obtain ⟨hall, hmax, hlen⟩ := num_valid2 hv
  have hk1 : Keeps (fun q => q = B) Y (Y.setCell ⟨B, 1, none⟩ (.int .i64 ((i + 1 : Nat) : Int))) := (Keeps.refl _ _).set B 1 _ (fun _ => rfl)
  have hR1 := hRY.go (j := i + 1) (by omega)
  have gT1 := hk1.box gT (by omega)
  have z1 := hk1.box h2Y (by omega)
  have hxn := ext_alloc (Below.refl _ (Y.setCell ⟨B, 1, none⟩ (.int .i64 ((i + 1 : Nat) : Int)))) (nbx ⟨13, [], 0, []⟩ none 0)
  have gn := alloc_new (Y.setCell ⟨B, 1, none⟩ (.int .i64 ((i + 1 : Nat) : Int))) (nbx ⟨13, [], 0, []⟩ none 0)
  have gT2 := block_below hxn gT1
  have z2 := block_below hxn z1
  have hR2 := hR1.below hxn
  have hk2 := ((Keeps.of_below (S := fun q => q = B) hbY).trans hk1).trans (Keeps.of_below hxn)
  have esz : (Y.setCell ⟨B, 1, none⟩ (.int .i64 ((i + 1 : Nat) : Int))).heap.size = Y.heap.size := by simp
  rw [esz] at gn
  have hzT := block_lt gT
  go_wp2
  obtain ⟨Z, hZ⟩ : ∃ Z, (Y.setCell ⟨B, 1, none⟩ (.int .i64 ((i + 1 : Nat) : Int))).alloc (nbx ⟨13, [], 0, []⟩ none 0) = Z := ⟨_, rfl⟩
  rw [hZ] at gn gT2 z2 hR2 hk2
  replace hZ : (Y.setCell ⟨B, 1, none⟩ (.int .i64 ((i : Int) + 1))).alloc (.cells #[.int .i64 13, .string ⟨#[]⟩, .int .i64 0, .slice none 0 0] 24) = Z := hZ
  rw [hZ]
  obtain ⟨tn, htn⟩ : ∃ m, Y.heap.size = m := ⟨_, rfl⟩
  rw [htn] at gn hzT
  rw [htn]
  clear hZ htn esz hxn hk1 hR1 gT1 z1 gT hRY h2Y hbY u0 u1 s0 s1 s2 v1 v2 d0 d1 d2 d3 e0 e1 e2 e3 m1 m2
  replace hall : Hid _ := hall
  replace hP : Hid _ := hP
  go_loopw [5] (fun ix wr => ∃ j : Nat, j ≤ t.length ∧ ix = .int .i64 (j : Nat) ∧ wr.heap[tn]? = some (.cells #[.int .i64 13, .string ⟨#[]⟩, .int .i64 ((numV (t.take j) : Nat) : Int), .slice none 0 0] 24) ∧ Keeps (fun q => q = tn) Z wr) (fun ix _ => t.length - (intOf ix).toNat)
  case atStart => exact ⟨0, by omega, rfl, gn, Keeps.refl _ _⟩
  case round =>
    obtain ⟨j, hj, rfl, gj, hkj⟩ := hrel
    have gTj := hkj.box gT2 (by omega)
    obtain ⟨u0, u1⟩ := box44 gTj
    obtain ⟨c0, c1, c2, c3, f0, f1, f2, f3⟩ := in4 gj
    by_cases hlt : j < t.length
    · have hlt' : (j : Int) < (t.length : Int) := by omega
      obtain ⟨c, hc⟩ : ∃ c, t[j]? = some c := ⟨_, List.getElem?_eq_getElem hlt⟩
      have hcj : t[j] = c := by have := List.getElem?_eq_getElem hlt; rw [hc] at this; exact (Option.some.inj this).symm
      have hdg := dig_lt (List.all_eq_true.1 hall.out c (List.mem_of_getElem? hc))
      have hnx := num_next hc
      have hle := num_take t (j + 1)
      obtain ⟨N0, hN0⟩ : ∃ N, numV (t.take j) = N := ⟨_, rfl⟩
      obtain ⟨N1, hN1⟩ : ∃ N, numV (t.take (j + 1)) = N := ⟨_, rfl⟩
      rw [hN0] at hnx c2 gj
      rw [hN1] at hnx hle
      have h48 : (48 : Int) ≤ (c.toNat : Int) := by omega
      have h57 : (c.toNat : Int) ≤ 57 := by omega
      have hkS : Keeps (fun q => q = tn) wr (wr.setCell ⟨tn, 2, none⟩ (.int .i64 ((N1 : Nat) : Int))) := (Keeps.refl _ _).set tn 2 _ (fun _ => rfl)
      have gS : (wr.setCell ⟨tn, 2, none⟩ (.int .i64 ((N1 : Nat) : Int))).heap[tn]? = some (.cells #[.int .i64 13, .string ⟨#[]⟩, .int .i64 ((N1 : Nat) : Int), .slice none 0 0] 24) := set_block _ gj
      have hN1i : (N1 : Int) = 10 * (N0 : Int) + ((c.toNat : Int) - 48) := by omega
      have hval : ∀ h, wrap64 (10 * (N0 : Int) + wrap64 (((((({ data := t.toArray } : ByteArray)[j]'h).toNat : Nat) : Int) - 48) % 256)) = (N1 : Int) := fun h => by
        have e : ({ data := t.toArray } : ByteArray)[j]'h = c := by rw [← hcj]; rfl
        rw [e]
        unfold wrap64
        omega
      clear hc hN0
      go_wp2
      go_region_with (fail)
      all_goals
        go_wp2
        refine ⟨⟨j + 1, by omega, by go_num, ?_, ?_⟩, by simp [intOf]; omega⟩
        · rw [hval, hN1]; exact gS
        · rw [hval]; exact (hkj.then hkS (fun q _ e => e)).drew
    · have hge : ¬ (j : Int) < (t.length : Int) := by omega
      have e : j = t.length := by omega
      rw [e, List.take_length] at gj c2
      have zj := hkj.box z2 (by omega)
      obtain ⟨d0, d1, d2, d3, e0, e1, e2, e3⟩ := in4 zj
      have hRj := hR2.keep hkj (fun q hq e => by omega)
      have hkw := hk2.then hkj (fun q hq e => by omega)
      clear e
      go_wp2
      refine bodyPost_ret (res157 rfl (put4_same _ _ _ _ zj)) rfl ?_
      exact na_close (x := ⟨13, [], numOf t, []⟩) (b := none) (cap := 0) (ndV_leaf _ _ 13 [] _) hRj hkw (Nat.le_refl _) hBw (.inr ⟨rfl, hP.out⟩)
end Go.Proofs.YtbofdfdmikhanaaGreatDoor
