/- The program's checker: what a name is; whether a place may be set. The program's checker: nodes side by side; a block's inside. The program's checker: a function's parameters, its block; a loop that counts. -/
import Derived.Test.YtnnppenlfocgiaaGreatDoorK22
namespace Go.Proofs.YtnnppenlfocgiaaGreatDoor
open Go.RowKit
open Go

theorem funsKV_look (fs : List (List UInt8)) (s : List UInt8) : ∀ (l : List (List UInt8)) (i : Nat) (kv : List (List UInt8 × Value)), (funsKV fs i l kv).lookup s = match kv.lookup s with
    | some v => some v
    | none => (funI l s).map fun j => .int .i64 ((i + j : Nat) : Int)
  | [], i, kv => by
    rw [funsKV]
    cases kv.lookup s <;> rfl
  | x :: l, i, kv => by
    rw [funsKV, funsKV_look fs s l (i + 1)]
    by_cases hx : x = s
    · subst hx
      cases hk : kv.lookup x with
      | some v => simp [hk]
      | none =>
        simp only [Option.isSome_none, Bool.false_eq_true, if_false]
        rw [List.lookup_append, hk]
        simp [funI, List.findIdx?_cons]
    · have e : (if (kv.lookup x).isSome then kv else kv ++ [(x, .int .i64 (i : Nat))]).lookup s = kv.lookup s := by
        split
        · rfl
        · rw [List.lookup_append]
          have : (s == x) = false := by simpa using fun h => hx h.symm
          simp [List.lookup, this]
      rw [e]
      cases kv.lookup s with
      | some v => rfl
      | none =>
        have hxs : (x == s) = false := by simpa using hx
        simp only [funI, List.findIdx?_cons, hxs]
        cases l.findIdx? (fun x => x == s) with
        | none => rfl
        | some j => simp; omega
theorem funsKV_nodup (fs : List (List UInt8)) : ∀ (l : List (List UInt8)) (i : Nat) (kv : List (List UInt8 × Value)), (kv.map (·.1)).Nodup → ((funsKV fs i l kv).map (·.1)).Nodup
  | [], i, kv, h => by rw [funsKV]; exact h
  | x :: l, i, kv, h => by
    rw [funsKV]
    refine funsKV_nodup fs l (i + 1) _ ?_
    split
    · exact h
    · rename_i hn
      rw [List.map_append, List.nodup_append]
      refine ⟨h, by simp, fun a ha b hb => ?_⟩
      simp at hb
      subst hb
      intro e
      obtain ⟨p, hp, rfl⟩ := List.mem_map.1 ha
      apply hn
      rw [← e, look_mem h hp]
      rfl
/-- What the checker knows of functions. -/
theorem Ck.funs {w0 : World} {B : Nat} {u : Nd} {ub : Option Addr} {uc fm : Nat} {O : Nat → Prop} {sl : List Int} {bl : List (List Lc)} {lv : Nat} {W : World} (h : Ck w0 B u ub uc fm O sl bl lv W) (s : List UInt8) (ok : Bool) :
    (Instr.lookup 63 (.map (some fm)) (sk s) ok).run Tryz.prog W = .ok (if ok then .tuple #[((funI (u.kids.map Nd.t) s).map fun j => Value.int .i64 ((j : Nat) : Int)).getD (.int .i64 0), .bool (funI (u.kids.map Nd.t) s).isSome] else ((funI (u.kids.map Nd.t) s).map fun j => Value.int .i64 ((j : Nat) : Int)).getD (.int .i64 0)) W := by
  obtain ⟨kv, hkv, hf⟩ := h.hf
  have hnd : (kv.map (·.1)).Nodup := by rw [hkv]; exact funsKV_nodup _ _ _ _ (by simp)
  have := run_look (P := Tryz.prog) (T := 63) (K := 9) (E := 3) (by kernel_rfl) (by kernel_rfl) key_str hf hnd (z := .int .i64 0) (by kernel_rfl) s ok
  have hl : kv.lookup s = (funI (u.kids.map Nd.t) s).map fun j => Value.int .i64 ((j : Nat) : Int) := by
    rw [hkv, funsKV_look]
    simp
  rw [hl] at this
  simpa using this
set_option maxRecDepth 20000 in
set_option maxHeartbeats 2000000 in
theorem name_any (w0 : World) (B : Nat) (u : Nd) (ub : Option Addr) (uc fm : Nat) (O : Nat → Prop) (sl : List Int) (bl : List (List Lc)) (s : List UInt8) (a : Nat) (W : World) (h : Ck w0 B u ub uc fm O sl bl (sumL bl) W) (hNB : NB bl) (hlen : bl.length ≤ 100000) (ha : a < sl.length) (hkl : u.kids.length ≤ 100000) :
    Calls Tryz.prog 102 #[.pointer (some ⟨B, 0, none⟩), sk s, .int .i64 (a : Nat)] W (CQ w0 B u ub uc fm O W (nameC (u.kids.map Nd.t) s a ⟨sl, bl⟩)) := by
  have hfind := find_any w0 B u ub uc fm O sl bl (sumL bl) s W h hNB hlen
  have ha0 : (0 : Int) ≤ (a : Int) := by omega
  have ha1 : (a : Int) < (sl.length : Int) := by omega
  cases hf : findL s bl with
  | some p =>
    obtain ⟨i, fx⟩ := p
    have hR : nameC (u.kids.map Nd.t) s a ⟨sl, bl⟩ = .ok ⟨sl.set a (i : Nat), bl⟩ := by simp [nameC, hf, Cs.put]
    rw [hR]
    have hfv : findV s bl = .tuple #[.agg #[.int .i64 (i : Nat), .bool fx], .bool true] := by rw [findV, hf]
    rw [hfv] at hfind
    clear hR hfv
    go_enter Tryz.func102, Tryz.ntmps102
    go_wp2_with (go_at_call 122; refine hfind.mono ?_; rintro e w1 ⟨rfl, hb1⟩; refine Hid.out ?_)
    have hb2 := ext_alloc hb1 (.cells #[.int .i64 (i : Nat), .bool fx] 164)
    have g2 := alloc_new w1 (.cells #[.int .i64 (i : Nat), .bool fx] 164)
    obtain ⟨Q, hQ⟩ : ∃ Q, w1.heap.size = Q := ⟨_, rfl⟩
    rw [hQ] at g2
    obtain ⟨V, hV⟩ : ∃ V, w1.alloc (.cells #[.int .i64 (i : Nat), .bool fx] 164) = V := ⟨_, rfl⟩
    rw [hV] at hb2 g2
    have hbV := hb2.drew
    have hCV := h.on hbV
    obtain ⟨g, sc, c5, hgB2, hOg, ⟨xx, cx⟩, fx5, hset⟩ := hCV.slot ha
    obtain ⟨hS, hSK⟩ := hset ((i : Nat) : Int)
    have hgQ : g ≠ Q := fun e => by
      have := (h.hO g hOg).2
      have := hb1.size
      omega
    have c5' : V.cell? ⟨B, 5, none⟩ = some (.slice (some ⟨g, 0, none⟩) sl.length sc) := c5
    have cx' : V.cell? ⟨g, a, none⟩ = some (.int .i64 xx) := cx
    have fx' : V.frozen? ⟨g, a, none⟩ = false := fx5
    have q0 : V.cell? ⟨Q, 0, none⟩ = some (.int .i64 (i : Nat)) := cell_block g2 rfl
    have hgB3 : ¬ B = g := Ne.symm hgB2
    have hgQ3 : ¬ Q = g := Ne.symm hgQ
    have fin : Hid (CQ w0 B u ub uc fm O W (.ok ⟨sl.set a (i : Nat), bl⟩) (.returned (.tuple #[])) (V.drew.setCell ⟨g, a, none⟩ (iv ((i : Nat) : Int)))) := .inl ⟨_, rfl, rfl, O, hS, (CK.below hbV).trans hSK⟩
    clear hfind hS hSK hset hCV
    refine Lib.hid ?_
    go_wp2
    try rw [hV, hQ]
    go_region_held3 (fun w' => w'.cell? ⟨B, 5, none⟩ = some (.slice (some ⟨g, 0, none⟩) sl.length sc) ∧ w'.cell? ⟨Q, 0, none⟩ = some (.int .i64 (i : Nat))) (go_keep) (fail)
    go_wp2
    go_end0
    exact fin.out
  | none =>
    have hfv : findV s bl = .tuple #[.agg #[.int .i64 0, .bool false], .bool false] := by rw [findV, hf]; rfl
    rw [hfv] at hfind
    have hfun := fun (V : World) (hb : Below W.heap.size W V) => (h.on hb).funs s true
    simp only [if_true] at hfun
    cases hg : funI (u.kids.map Nd.t) s with
    | some j =>
      rw [hg] at hfun
      simp only [Option.map_some, Option.getD_some, Option.isSome_some] at hfun
      have hj : j < u.kids.length := by
        unfold funI at hg
        rw [List.findIdx?_eq_some_iff_getElem] at hg
        obtain ⟨hj, _⟩ := hg
        simpa using hj
      have hR : nameC (u.kids.map Nd.t) s a ⟨sl, bl⟩ = .ok ⟨sl.set a (30 + (j : Nat)), bl⟩ := by simp [nameC, hf, hg, Cs.put]
      rw [hR]
      clear hR hfv
      have hw30 : IntKind.i64.wrap ((30 : Int) + (j : Int)) = 30 + (j : Int) := by rw [IntKind.wrap_i64]; omega
      go_enter Tryz.func102, Tryz.ntmps102
      go_wp2_with (go_at_call 122; refine hfind.mono ?_; rintro e w1 ⟨rfl, hb1⟩; refine Hid.out ?_)
      have hbV := ext_alloc hb1 (.cells #[.int .i64 0, .bool false] 164)
      have hCV := h.on hbV
      have hlook := hfun _ hbV
      obtain ⟨_, c4, _, _⟩ := hCV.cells
      obtain ⟨g, sc, c5, hgB2, hOg, ⟨xx, cx⟩, fx5, hset⟩ := hCV.slot ha
      obtain ⟨hS, hSK⟩ := hset (30 + ((j : Nat) : Int))
      have hgB3 : ¬ B = g := Ne.symm hgB2
      have fin : Hid (CQ w0 B u ub uc fm O W (.ok ⟨sl.set a (30 + (j : Nat)), bl⟩) (.returned (.tuple #[])) ((w1.alloc (.cells #[.int .i64 0, .bool false] 164)).setCell ⟨g, a, none⟩ (iv (30 + ((j : Nat) : Int))))) := .inl ⟨_, rfl, rfl, O, hS, (CK.below hbV).trans hSK⟩
      clear hfind hfun hS hSK hset hCV
      refine Lib.hid ?_
      go_wp2_with (go_at_call 44; refine (refuse_any _ _ _ a _).mono ?_; rintro e w2 ⟨rfl, (⟨hw, rfl⟩ | ⟨hw, rfl⟩)⟩; (exact absurd hw (by decide)))
      go_end0
      exact fin.out
    | none =>
      rw [hg] at hfun
      simp only [Option.map_none, Option.getD_none, Option.isSome_none] at hfun
      have hR : nameC (u.kids.map Nd.t) s a ⟨sl, bl⟩ = .error (4, a) := by simp [nameC, hf, hg]
      rw [hR]
      clear hR hfv
      go_enter Tryz.func102, Tryz.ntmps102
      go_wp2_with (go_at_call 122; refine hfind.mono ?_; rintro e w1 ⟨rfl, hb1⟩; refine Hid.out ?_)
      have hbV := ext_alloc hb1 (.cells #[.int .i64 0, .bool false] 164)
      have hCV := h.on hbV
      have hlook := hfun _ hbV
      obtain ⟨_, c4, _, _⟩ := hCV.cells
      have fin : Hid (Below w0.heap.size w0 (w1.alloc (.cells #[.int .i64 0, .bool false] 164))) := hCV.bl
      clear hfind hfun hCV
      refine Lib.hid ?_
      go_wp2_with (go_at_call 44; refine (refuse_yes _ _ a _).mono ?_; rintro e w2 ⟨rfl, rfl⟩)
      exact ⟨rfl, .inr ⟨4, a, rfl, rfl, fin.out⟩⟩
/-- May a place be set? -/
def setV (p : Nd) (bl : List (List Lc)) : Bool := if p.k = 18 then (match findL p.t bl with | some q => !q.2 | none => false) else true
set_option maxRecDepth 20000 in
set_option maxHeartbeats 2000000 in
theorem maySet_any (w0 : World) (B : Nat) (u : Nd) (ub : Option Addr) (uc fm : Nat) (O : Nat → Prop) (sl : List Int) (bl : List (List Lc)) (p : Nd) (b : Option Addr) (cap : Nat) (W : World) (h : Ck w0 B u ub uc fm O sl bl (sumL bl) W) (hNB : NB bl) (hlen : bl.length ≤ 100000) :
    Calls Tryz.prog 103 #[.pointer (some ⟨B, 0, none⟩), ndv p b cap] W fun e W' => e = .returned (.bool (setV p bl)) ∧ Below W.heap.size W W' := by
  have hb0 := ext_alloc (Below.refl W.heap.size W) (nbx p b cap)
  have g0 := alloc_new W (nbx p b cap)
  have hfind := find_any w0 B u ub uc fm O sl bl (sumL bl) p.t _ (h.on hb0) hNB hlen
  obtain ⟨t, ht⟩ : ∃ t, W.heap.size = t := ⟨_, rfl⟩
  rw [ht] at g0
  obtain ⟨lc, ok, hfv, hset⟩ : ∃ (lc : Nat × Bool) (ok : Bool), findV p.t bl = .tuple #[.agg #[.int .i64 (lc.1 : Nat), .bool lc.2], .bool ok] ∧ setV p bl = (decide (¬ p.k = 18) || (ok && !lc.2)) := by
    unfold findV setV
    cases findL p.t bl with
    | none => exact ⟨(0, false), false, rfl, by by_cases h18 : p.k = 18 <;> simp [h18]⟩
    | some q => exact ⟨q, true, rfl, by by_cases h18 : p.k = 18 <;> simp [h18]⟩
  rw [hfv] at hfind
  rw [hset]
  obtain ⟨k0, t0, n0, ks⟩ := p
  simp only at hfind g0 ⊢
  obtain ⟨li, lf⟩ := lc
  simp only at hfind ⊢
  clear hset hfv
  replace hfind : Calls Tryz.prog 122 #[.pointer (some ⟨B, 0, none⟩), sk t0] (W.alloc (.cells #[.int .i64 k0, sk t0, .int .i64 n0, .slice b ks.length cap] 24)) fun e w' => e = .returned (.tuple #[.agg #[.int .i64 (li : Nat), .bool lf], .bool ok]) ∧ Below (W.alloc (.cells #[.int .i64 k0, sk t0, .int .i64 n0, .slice b ks.length cap] 24)).heap.size (W.alloc (.cells #[.int .i64 k0, sk t0, .int .i64 n0, .slice b ks.length cap] 24)) w' := hfind
  by_cases h18 : k0 = 18
  · subst h18
    cases ok with
    | false =>
      go_enter Tryz.func103, Tryz.ntmps103
      go_wp2_with (go_at_call 122; refine hfind.mono ?_; rintro e w1 ⟨rfl, hb1⟩; have g1 := block_below hb1 g0; have hbW := ext_alloc (ext_trans hb0 hb1) (.cells #[.int .i64 (li : Nat), .bool lf] 164); obtain ⟨z0, z1, z2, z3, _, _, _, _⟩ := in4a g1)
      go_ret
      exact ⟨by simp, hbW⟩
    | true =>
      go_enter Tryz.func103, Tryz.ntmps103
      go_wp2_with (go_at_call 122; refine hfind.mono ?_; rintro e w1 ⟨rfl, hb1⟩; have g1 := block_below hb1 g0; have hbW := ext_alloc (ext_trans hb0 hb1) (.cells #[.int .i64 (li : Nat), .bool lf] 164); obtain ⟨z0, z1, z2, z3, _, _, _, _⟩ := in4a g1)
      go_ret
      exact ⟨by simp, hbW⟩
  · have e18 : (k0 == 18) = false := by simpa using h18
    go_enter Tryz.func103, Tryz.ntmps103
    go_wp2_with (go_at_call 122; refine hfind.mono ?_; rintro e w1 ⟨rfl, hb1⟩; have g1 := block_below hb1 g0; have hbW := ext_alloc (ext_trans hb0 hb1) (.cells #[.int .i64 (li : Nat), .bool lf] 164); obtain ⟨z0, z1, z2, z3, _, _, _, _⟩ := in4a g1)
    go_ret
    exact ⟨by simp [h18], hbW⟩
end Go.Proofs.YtnnppenlfocgiaaGreatDoor
namespace Go.Proofs.YtnnppenlfocgiaaGreatDoor
open Go.RowKit
open Go

def low (w0 : World) : Nat → Prop := fun g => g < w0.heap.size
/-- What the checker does at a node. -/
def VisC (n : Nd) : Prop := ∀ (w0 : World) (B : Nat) (u : Nd) (ub : Option Addr) (uc fm : Nat) (O : Nat → Prop) (sl : List Int) (bl : List (List Lc)) (b : Option Addr) (cap : Nat) (W : World), Ck w0 B u ub uc fm O sl bl (sumL bl) W → NdV (low w0) w0 n (ndv n b cap) → sl.length + manyN n ≤ 100000 → bl.length + manyN n ≤ 100000 → sumL bl ≤ 30 → NB bl → bl ≠ [] → u.kids.length ≤ 100000 →
  Calls Tryz.prog 87 #[.pointer (some ⟨B, 0, none⟩), ndv n b cap] W (CQ w0 B u ub uc fm O W (visC (u.kids.map Nd.t) false n ⟨sl, bl⟩))
def InC (n : Nd) : Prop := ∀ (w0 : World) (B : Nat) (u : Nd) (ub : Option Addr) (uc fm : Nat) (O : Nat → Prop) (sl : List Int) (bl : List (List Lc)) (b : Option Addr) (cap : Nat) (W : World), Ck w0 B u ub uc fm O sl bl (sumL bl) W → NdV (low w0) w0 n (ndv n b cap) → sl.length + manyN n ≤ 100000 → bl.length + manyN n ≤ 100001 → sumL bl ≤ 30 → NB bl → bl ≠ [] → u.kids.length ≤ 100000 →
  Calls Tryz.prog 67 #[.pointer (some ⟨B, 0, none⟩), ndv n b cap] W (CQ w0 B u ub uc fm O W (visC (u.kids.map Nd.t) true n ⟨sl, bl⟩))
def AllC2 (ks : List Nd) : Prop := ∀ (w0 : World) (B : Nat) (u : Nd) (ub : Option Addr) (uc fm : Nat) (O : Nat → Prop) (sl : List Int) (bl : List (List Lc)) (b : Option Addr) (cap : Nat) (W : World), Ck w0 B u ub uc fm O sl bl (sumL bl) W → KA (low w0) w0 b cap ks → sl.length + manyN.go ks ≤ 100000 → bl.length + manyN.go ks ≤ 100000 → sumL bl ≤ 30 → NB bl → bl ≠ [] → u.kids.length ≤ 100000 →
  Calls Tryz.prog 66 #[.pointer (some ⟨B, 0, none⟩), .slice b ks.length cap] W (CQ w0 B u ub uc fm O W (allC (u.kids.map Nd.t) ks ⟨sl, bl⟩))
theorem KA.low {w0 W : World} {b : Option Addr} {cap : Nat} {ks : List Nd} (h : KA (low w0) w0 b cap ks) (hb : Below w0.heap.size w0 W) : KA (low w0) W b cap ks := h.on fun g hg _ => hb.block g hg
theorem CQ.par {w0 : World} {B : Nat} {u : Nd} {ub : Option Addr} {uc fm : Nat} {O : Nat → Prop} {W : World} {R : CR} {e : Ending} {W' : World} (h : CQ w0 B u ub uc fm O W R e W') : (∃ cd a, R = .error (cd, a) ∧ e = .panicked (pan (flt cd a)) ∧ Below w0.heap.size w0 W') ∨ (∃ c', R = .ok c' ∧ e = .returned (.tuple #[]) ∧ ∃ O', Ck w0 B u ub uc fm O' c'.sl c'.bl (sumL c'.bl) W' ∧ CK O W O' W') := Or.symm h
/-- Between two nodes. -/
def AI2 (w0 : World) (B : Nat) (u : Nd) (ub : Option Addr) (uc fm : Nat) (O : Nat → Prop) (W : World) (M D : Nat) (R : CR) (ks : List Nd) (j : Nat) (wr : World) : Prop :=
  ∃ O' c', Ck w0 B u ub uc fm O' c'.sl c'.bl (sumL c'.bl) wr ∧ CK O W O' wr ∧ allC (u.kids.map Nd.t) (ks.drop j) c' = R ∧ c'.sl.length + manyN.go (ks.drop j) ≤ M ∧ c'.bl.length = D ∧ sumL c'.bl ≤ 30 ∧ NB c'.bl
set_option maxRecDepth 20000 in
set_option maxHeartbeats 2000000 in
theorem allV_of (ks : List Nd) (ih : ∀ y ∈ ks, VisC y) : AllC2 ks := by
  intro w0 B u ub uc fm O sl bl b cap W hC hK hM hD hlv hNB hne hul
  obtain ⟨R, hR⟩ : ∃ R, allC (u.kids.map Nd.t) ks ⟨sl, bl⟩ = R := ⟨_, rfl⟩
  rw [hR]
  have hD0 : 0 < bl.length := List.length_pos_iff.2 hne
  have hkl := many_len ks
  obtain ⟨D, hDd⟩ : ∃ D, bl.length = D := ⟨_, rfl⟩
  rw [hDd] at hD hD0
  have hI : AI2 w0 B u ub uc fm O W 100000 D R ks 0 W := ⟨O, ⟨sl, bl⟩, hC, CK.refl _ _, by rw [List.drop_zero]; exact hR, by rw [List.drop_zero]; exact hM, hDd, hlv, hNB⟩
  obtain ⟨L, hL⟩ : ∃ L, ks.length = L := ⟨_, rfl⟩
  rw [hL] at hkl ⊢
  clear hC hR hlv hNB hne hDd hM
  replace ih : Hid (∀ y ∈ ks, VisC y) := ih
  replace hL : Hid _ := hL
  replace hK : Hid (KA (low w0) w0 b cap ks) := hK
  go_enter Tryz.func66, Tryz.ntmps66
  go_wp2
  go_loopw [8] (fun ix wr => ∃ j : Nat, j ≤ L ∧ ix = .int .i64 (j : Nat) ∧ AI2 w0 B u ub uc fm O W 100000 D R ks j wr) (fun ix _ => L - (intOf ix).toNat)
  case atStart => exact ⟨0, Nat.zero_le _, rfl, hI⟩
  case round =>
    obtain ⟨j, hj, rfl, O1, c1, hC, hCK, hgo, hs2, hDl, hlv, hNB⟩ := hrel
    clear hI
    by_cases hlt : j < L
    · have hlt' : (j : Int) < (L : Int) := by omega
      have hge : (0 : Int) ≤ (j : Int) := by omega
      have hjk : j < ks.length := by have := hL.out; omega
      obtain ⟨y, hy⟩ : ∃ y, ks[j]? = some y := ⟨_, List.getElem?_eq_getElem hjk⟩
      have hK0 := hK.out
      obtain ⟨g', off, b', cap', rfl, v0, v1, v2, v3, hyV⟩ := KA.at hK0 hy
      have hgw := World.block_lt_of_cell? _ _ v0
      simp only at hgw
      have hcell : ∀ i v, w0.cell? ⟨g', i, none⟩ = some v → wr.cell? ⟨g', i, none⟩ = some v := fun i v h => (hC.bl.cell (p := ⟨g', i, none⟩) hgw).trans h
      replace v0 := hcell _ _ v0
      replace v1 := hcell _ _ v1
      replace v2 := hcell _ _ v2
      replace v3 := hcell _ _ v3
      have hdr : ks.drop j = y :: ks.drop (j + 1) := by rw [List.drop_eq_getElem_cons hjk]; congr 1; exact (List.getElem?_eq_some_iff.1 hy).2
      rw [hdr] at hgo hs2
      simp only [manyN.go] at hs2
      rw [allC] at hgo
      have hmk : manyN y ≤ manyN.go ks := by
        have := congrArg manyN.go (List.take_append_drop j ks)
        rw [many_app, hdr] at this
        simp only [manyN.go] at this
        omega
      have hb0 := ext_alloc (Below.refl wr.heap.size wr) (nbx y b' cap')
      have hcall := ih.out y (List.mem_of_getElem? hy) w0 B u ub uc fm O1 c1.sl c1.bl b' cap' _ (hC.on hb0) hyV (by omega) (by omega) hlv hNB (fun e => by rw [e] at hDl; simp at hDl; omega) hul
      have hCK0 := hCK.trans (CK.below (O := O1) hb0)
      obtain ⟨yk, yt, yn, ys⟩ := y
      simp only at v0 v1 v2 v3
      replace hcall : Calls Tryz.prog 87 #[.pointer (some ⟨B, 0, none⟩), .agg #[.int .i64 yk, sk yt, .int .i64 yn, .slice b' ys.length cap']] (wr.alloc (.cells #[.int .i64 yk, sk yt, .int .i64 yn, .slice b' ys.length cap'] 24)) (CQ w0 B u ub uc fm O1 (wr.alloc (.cells #[.int .i64 yk, sk yt, .int .i64 yn, .slice b' ys.length cap'] 24)) (visC (u.kids.map Nd.t) false ⟨yk, yt, yn, ys⟩ ⟨c1.sl, c1.bl⟩)) := hcall
      have hpan : ∀ cd a, visC (u.kids.map Nd.t) false ⟨yk, yt, yn, ys⟩ ⟨c1.sl, c1.bl⟩ = .error (cd, a) → R = .error (cd, a) := fun cd a e => by rw [← hgo]; rw [show (⟨c1.sl, c1.bl⟩ : Cs) = c1 from rfl] at e; rw [e]; rfl
      replace hpan : Hid _ := hpan
      replace hgo : Hid _ := hgo
      clear hy hdr hcell
      go_wp2_with (go_at_call 87; refine hcall.mono ?_; intro e w2 hq; rcases hq.par with ⟨cd, a, he, rfl, hbp⟩ | ⟨c2, he, rfl, O2, hC2, hK2⟩; (exact ⟨rfl, .inr ⟨cd, a, hpan.out _ _ he, rfl, hbp⟩⟩))
      go_roundw
      case rel =>
        have hkp := vis_keep _ _ _ _ _ he
        have hln := vis_len _ _ _ _ _ he
        have hlv2 := vis_lv _ _ _ _ _ he hlv
        have hg2 := hgo.out
        rw [show (⟨c1.sl, c1.bl⟩ : Cs) = c1 from rfl] at he
        rw [he] at hg2
        exact ⟨j + 1, by omega, by go_num, O2, c2, hC2, hCK0.trans hK2, hg2, by simp only at hln; omega, hkp.len.trans hDl, hlv2, hkp.nb hNB⟩
      case measure => simp [intOf]; omega
    · have hlt' : ¬ (j : Int) < (L : Int) := by omega
      have hRo : R = .ok c1 := by rw [← hgo, List.drop_eq_nil_of_le (by have := hL.out; omega), allC]
      subst hRo
      go_wp2
      go_end0
      exact .inl ⟨c1, rfl, rfl, O1, hC, hCK⟩
set_option maxRecDepth 20000 in
set_option maxHeartbeats 2000000 in
theorem inside_of (t0 : List UInt8) (n0 : Int) (ks : List Nd) (ih : AllC2 ks) : InC ⟨4, t0, n0, ks⟩ := by
  intro w0 B u ub uc fm O sl bl b cap W hC hN hM hD hlv hNB hne hul
  have hms : manyN ⟨4, t0, n0, ks⟩ = manyN.go ks + 1 := rfl
  rw [hms] at hM hD
  rw [vis_in]
  have hK := KA.of hN
  have hb0 := ext_alloc (Below.refl W.heap.size W) (nbx ⟨4, t0, n0, ks⟩ b cap)
  have g0 := alloc_new W (nbx ⟨4, t0, n0, ks⟩ b cap)
  have hCK0 := CK.below (O := O) hb0
  have hen := enter_any w0 B u ub uc fm O sl bl (sumL bl) _ (hC.on hb0) (by omega)
  have hnO : ¬ O W.heap.size := fun h => by have := (hC.hO _ h).2; omega
  have hall := fun O1 w1 (hC1 : Ck w0 B u ub uc fm O1 (sl ++ [-1]) bl (sumL bl) w1) => ih w0 B u ub uc fm O1 (sl ++ [-1]) bl b cap w1 hC1 hK (by simp; omega) (by omega) hlv hNB hne hul
  rw [show (⟨sl, bl⟩ : Cs).enter = ⟨sl ++ [-1], bl⟩ from rfl]
  obtain ⟨t, ht⟩ : ∃ t, W.heap.size = t := ⟨_, rfl⟩
  rw [ht] at g0 hnO
  clear hC hN hK
  go_enter Tryz.func67, Tryz.ntmps67
  go_wp2_with (first
    | (go_at_call 42; refine hen.mono ?_; rintro e w1 ⟨rfl, O1, hC1, hK1⟩; obtain ⟨g1, hn1⟩ := hK1.box g0 hnO; obtain ⟨z0, z1, z2, z3, _, _, _, _⟩ := in4 g1)
    | (go_at_call 66; refine (hall O1 w1 hC1).mono ?_; intro e w2 hq; rcases hq.par with ⟨cd, a, he, rfl, hbp⟩ | ⟨c2, he, rfl, O2, hC2, hK2⟩; (exact ⟨rfl, .inr ⟨cd, a, he, rfl, hbp⟩⟩)))
  go_end0
  exact .inl ⟨c2, he, rfl, O2, hC2, hCK0.trans (hK1.trans hK2)⟩
end Go.Proofs.YtnnppenlfocgiaaGreatDoor
namespace Go.Proofs.YtnnppenlfocgiaaGreatDoor
open Go.RowKit
open Go

theorem res68b {tm : Array Value} {W : World} {B : Nat} {a b c d : Value} (h : tm[2]?.getD undef = .pointer (some ⟨B, 0, none⟩)) (hx : W.heap[B]? = some (.cells #[a, b, c, d] 24)) : (results Tryz.f68 tm).run Tryz.prog W = .ok (.agg #[a, b, c, d]) W := by
  obtain ⟨c0, c1, c2, c3, _, _, _, _⟩ := in4 hx
  simp [results, Tryz.results68, go_sem, h, c0, c1, c2, c3]
set_option maxRecDepth 20000 in
set_option maxHeartbeats 1000000 in
theorem body_any (w0 : World) (k0 : Int) (t0 : List UInt8) (n0 : Int) (ks : List Nd) (b : Option Addr) (cap : Nat) (hK : KA (low w0) w0 b cap ks) (j : Nat) (z : Nd) (hz : ks[j]? = some z) (hj : j + 1 = ks.length) (hl : ks.length ≤ 100000) :
    ∃ bz cz, NdV (low w0) w0 z (ndv z bz cz) ∧ ∀ W, Below w0.heap.size w0 W → Calls Tryz.prog 68 #[ndv ⟨k0, t0, n0, ks⟩ b cap] W fun e W' => e = .returned (ndv z bz cz) ∧ Below W.heap.size W W' := by
  obtain ⟨g', off, b', cap', rfl, v0, v1, v2, v3, hyV⟩ := KA.at hK hz
  refine ⟨b', cap', hyV, fun W hb => ?_⟩
  have hgw := World.block_lt_of_cell? _ _ v0
  simp only at hgw
  have hgW : g' < W.heap.size := Nat.lt_of_lt_of_le hgw hb.size
  obtain ⟨L, hL⟩ : ∃ L, ks.length = L := ⟨_, rfl⟩
  rw [hL] at hj hl
  have hcell : ∀ i v, w0.cell? ⟨g', i, none⟩ = some v → ∀ o o', ((W.alloc o).alloc o').cell? ⟨g', i, none⟩ = some v := fun i v h o o' => (World.cell?_alloc_past _ _ _ (by simp; omega)).trans ((World.cell?_alloc_past _ _ _ hgW).trans ((hb.cell (p := ⟨g', i, none⟩) hgw).trans h))
  replace v0 := hcell _ _ v0
  replace v1 := hcell _ _ v1
  replace v2 := hcell _ _ v2
  replace v3 := hcell _ _ v3
  have hw : IntKind.i64.wrap ((L : Int) - 1) = (j : Int) := by rw [IntKind.wrap_i64]; omega
  have hj0 : (0 : Int) ≤ (j : Int) := by omega
  have hj1 : (j : Int) < (L : Int) := by omega
  obtain ⟨zk, zt, zn, zs⟩ := z
  simp only at v0 v1 v2 v3
  show Calls Tryz.prog 68 #[.agg #[.int .i64 k0, sk t0, .int .i64 n0, .slice (some ⟨g', off, none⟩) ks.length cap]] W _
  rw [hL]
  clear hcell hyV hz hK hL
  go_enter Tryz.func68, Tryz.ntmps68
  go_wp2
  refine bodyPost_ret (res68b rfl (W := (W.alloc (.cells #[.int .i64 k0, sk t0, .int .i64 n0, .slice (some ⟨g', off, none⟩) L cap] 24)).alloc (nbx ⟨zk, zt, zn, zs⟩ b' cap')) ?_) rfl ⟨rfl, ext_alloc (ext_alloc (Below.refl _ _) _) _⟩
  have := alloc_new (W.alloc (.cells #[.int .i64 k0, sk t0, .int .i64 n0, .slice (some ⟨g', off, none⟩) L cap] 24)) (nbx ⟨zk, zt, zn, zs⟩ b' cap')
  rw [World.size_alloc] at this
  exact this
set_option maxRecDepth 20000 in
set_option maxHeartbeats 1000000 in
theorem params_any (k0 : Int) (t0 : List UInt8) (n0 : Int) (ks : List Nd) (g off cap : Nat) (j : Nat) (hj : j + 1 = ks.length) (hl : ks.length ≤ 100000) (hc : ks.length ≤ cap) (W : World) :
    Calls Tryz.prog 45 #[ndv ⟨k0, t0, n0, ks⟩ (some ⟨g, off, none⟩) cap] W fun e W' => e = .returned (.slice (some ⟨g, off, none⟩) j cap) ∧ Below W.heap.size W W' := by
  obtain ⟨L, hL⟩ : ∃ L, ks.length = L := ⟨_, rfl⟩
  rw [hL] at hj hl hc
  have hw : IntKind.i64.wrap ((L : Int) - 1) = (j : Int) := by rw [IntKind.wrap_i64]; omega
  have hw2 : (L : Int) - 1 = (j : Int) := by omega
  have hj0 : (0 : Int) ≤ (j : Int) := by omega
  have hj1 : (j : Int) ≤ (cap : Int) := by omega
  have hb2 : Below W.heap.size W (W.alloc (.cells #[.int .i64 k0, sk t0, .int .i64 n0, .slice (some ⟨g, off, none⟩) L cap] 24)) := ext_alloc (Below.refl _ _) _
  show Calls Tryz.prog 45 #[.agg #[.int .i64 k0, sk t0, .int .i64 n0, .slice (some ⟨g, off, none⟩) ks.length cap]] W _
  rw [hL]
  clear hL
  go_enter Tryz.func45, Tryz.ntmps45
  go_wp2
  go_ret
  exact ⟨rfl, hb2⟩
theorem KA.take {S : Nat → Prop} {w : World} {b : Option Addr} {cap : Nat} {ks : List Nd} (h : KA S w b cap ks) (j : Nat) : KA S w b cap (ks.take j) := by
  refine ⟨Nat.le_trans (by simp; omega) h.1, ?_⟩
  rcases h.2 with h0 | ⟨g, off, rfl, hs, hkd⟩
  · exact .inl (by rw [h0]; simp)
  · refine .inr ⟨g, off, rfl, hs, fun i y hy => hkd i y ?_⟩
    have hi := (List.getElem?_eq_some_iff.1 hy).1
    rw [List.getElem?_take_of_lt (by simp at hi; omega)] at hy
    exact hy
def CntC (n : Nd) : Prop := ∀ (w0 : World) (B : Nat) (u : Nd) (ub : Option Addr) (uc fm : Nat) (O : Nat → Prop) (sl : List Int) (bl : List (List Lc)) (b : Option Addr) (cap : Nat) (W : World), Ck w0 B u ub uc fm O sl bl (sumL bl) W → NdV (low w0) w0 n (ndv n b cap) → sl.length + manyN n ≤ 100000 → bl.length + manyN n ≤ 100000 → sumL bl ≤ 30 → NB bl → bl ≠ [] → u.kids.length ≤ 100000 →
  Calls Tryz.prog 100 #[.pointer (some ⟨B, 0, none⟩), ndv n b cap] W (CQ w0 B u ub uc fm O W (visC (u.kids.map Nd.t) false n ⟨sl, bl⟩))
theorem tail_of {bl : List (List Lc)} {r : List (List Lc)} (h : bl.tail = r) (hl : bl.length = r.length + 1) : ∃ b, bl = b :: r := by
  cases bl with
  | nil => simp at hl
  | cons b l => exact ⟨b, by rw [← h]; rfl⟩
set_option maxRecDepth 20000 in
set_option maxHeartbeats 4000000 in
theorem cnt_of (t0 : List UInt8) (n0 : Int) (x y z : Nd) (hxy : AllC2 [x, y]) (hz : InC z) : CntC ⟨10, t0, n0, [x, y, z]⟩ := by
  intro w0 B u ub uc fm O sl bl b cap W hC hN hM hD hlv hNB hne hul
  have hms : manyN ⟨10, t0, n0, [x, y, z]⟩ = manyN.go [x, y] + manyN z + 1 := by show manyN.go [x, y, z] + 1 = _; simp only [manyN.go]; omega
  rw [hms] at hM hD
  have hmz := manyN_eq z
  have hK := KA.of hN
  have hcap : 3 ≤ cap := hK.1
  obtain ⟨bz, cz, hzN, hbody⟩ := body_any w0 10 t0 n0 [x, y, z] b cap hK 2 z rfl rfl (by simp)
  have hK2 : KA (low w0) w0 b cap [x, y] := hK.take 2
  obtain ⟨g', off, _, _, rfl, _⟩ := KA.at hK (j := 0) (y := x) rfl
  obtain ⟨R, hR⟩ : ∃ R, visC (u.kids.map Nd.t) false ⟨10, t0, n0, [x, y, z]⟩ ⟨sl, bl⟩ = R := ⟨_, rfl⟩
  rw [hR]
  rw [vis_for, show (⟨sl, bl⟩ : Cs).enter = ⟨sl ++ [-1], bl⟩ from rfl] at hR
  simp only at hR
  have f1 : Hid (∀ cd a, allC (u.kids.map Nd.t) [x, y] ⟨sl ++ [-1], bl⟩ = .error (cd, a) → R = .error (cd, a)) := fun cd a e => by rw [← hR, e]; rfl
  have f2 : Hid (∀ d cd a, allC (u.kids.map Nd.t) [x, y] ⟨sl ++ [-1], bl⟩ = .ok d → declareC t0 true sl.length ⟨d.sl, [] :: d.bl⟩ = .error (cd, a) → R = .error (cd, a)) := fun d cd a e e2 => by rw [← hR, e]; show Except.bind (declareC t0 true sl.length ⟨d.sl, [] :: d.bl⟩) _ = _; rw [e2]; rfl
  have f3 : Hid (∀ d f cd a, allC (u.kids.map Nd.t) [x, y] ⟨sl ++ [-1], bl⟩ = .ok d → declareC t0 true sl.length ⟨d.sl, [] :: d.bl⟩ = .ok f → visC (u.kids.map Nd.t) true z ⟨f.sl, f.bl⟩ = .error (cd, a) → R = .error (cd, a)) := fun d f cd a e e2 e3 => by
    rw [← hR, e]; show Except.bind (declareC t0 true sl.length ⟨d.sl, [] :: d.bl⟩) _ = _; rw [e2]; show Except.map _ (visC (u.kids.map Nd.t) true z ⟨f.sl, f.bl⟩) = _; rw [e3]; rfl
  have f4 : Hid (∀ d f h, allC (u.kids.map Nd.t) [x, y] ⟨sl ++ [-1], bl⟩ = .ok d → declareC t0 true sl.length ⟨d.sl, [] :: d.bl⟩ = .ok f → visC (u.kids.map Nd.t) true z ⟨f.sl, f.bl⟩ = .ok h → R = .ok h.close) := fun d f h e e2 e3 => by
    rw [← hR, e]; show Except.bind (declareC t0 true sl.length ⟨d.sl, [] :: d.bl⟩) _ = _; rw [e2]; show Except.map _ (visC (u.kids.map Nd.t) true z ⟨f.sl, f.bl⟩) = _; rw [e3]; rfl
  clear hR
  have hb0 := ext_alloc (Below.refl W.heap.size W) (nbx ⟨10, t0, n0, [x, y, z]⟩ (some ⟨g', off, none⟩) cap)
  have g0 := alloc_new W (nbx ⟨10, t0, n0, [x, y, z]⟩ (some ⟨g', off, none⟩) cap)
  have hCK0 := CK.below (O := O) hb0
  have hen := enter_any w0 B u ub uc fm O sl bl (sumL bl) _ (hC.on hb0) (by omega)
  have hnO : ¬ O W.heap.size := fun h => by have := (hC.hO _ h).2; omega
  have hall := fun O1 w1 (hC1 : Ck w0 B u ub uc fm O1 (sl ++ [-1]) bl (sumL bl) w1) => hxy w0 B u ub uc fm O1 (sl ++ [-1]) bl (some ⟨g', off, none⟩) cap w1 hC1 hK2 (by simp; omega) (by omega) hlv hNB hne hul
  obtain ⟨t, ht⟩ : ∃ t, W.heap.size = t := ⟨_, rfl⟩
  rw [ht] at g0 hnO
  clear hC hN hK hK2
  replace hbody : Hid _ := hbody
  replace hz : Hid (InC z) := hz
  replace hzN : Hid (NdV (low w0) w0 z (ndv z bz cz)) := hzN
  have hcap2 : (2 : Int) ≤ (cap : Int) := by omega
  go_enter Tryz.func100, Tryz.ntmps100
  go_wp2_with (first
    | (go_at_call 42; refine hen.mono ?_; rintro e w1 ⟨rfl, O1, hC1, hK1⟩; obtain ⟨g1, hn1⟩ := hK1.box g0 hnO; obtain ⟨z0, z1, z2, z3, _, _, _, _⟩ := in4 g1)
    | (go_at_call 66; refine (hall O1 w1 hC1).mono ?_; intro e w2 hq; rcases hq.par with ⟨cd, a, he, rfl, hbp⟩ | ⟨c2, he2, rfl, O2, hC2, hK2⟩; (exact ⟨rfl, .inr ⟨cd, a, f1.out _ _ he, rfl, hbp⟩⟩); refine Hid.out ?_))
  have hkp2 := all_keep _ _ _ _ he2
  have hln2 := all_len _ _ _ _ he2
  have hlv2 : sumL c2.bl ≤ 30 := all_lv _ _ _ _ he2 hlv
  have hNB2 := hkp2.nb hNB
  have hl2 := hkp2.len
  simp only [List.length_append, List.length_singleton] at hln2
  simp only at hl2
  obtain ⟨g2, hn2⟩ := hK2.box g1 hn1
  have hbeg := begin_any w0 B u ub uc fm O2 c2.sl c2.bl (sumL c2.bl) w2 hC2 (by omega)
  have hdec := fun O3 w3 (hC3 : Ck w0 B u ub uc fm O3 c2.sl ([] :: c2.bl) (sumL c2.bl) w3) => declare_any w0 B u ub uc fm O3 c2.sl [] c2.bl (sumL c2.bl) t0 true sl.length w3 hC3 (by rw [sumL_cons]; simp) hlv2 (by omega) (by omega) (by simp)
  obtain ⟨y0, y1, y2, y3, _, _, _, _⟩ := in4 g2
  simp only at y0 y1 y2 y3
  have hCK2 := hCK0.trans (hK1.trans hK2)
  clear hen hall z0 z1 z2 z3 hC1 hC2 hK1 hK2 hCK0
  refine Lib.hid ?_
  go_wp2_with (first
    | (go_at_call 65; refine hbeg.mono ?_; rintro e w3 ⟨rfl, O3, hC3, hK3⟩; obtain ⟨g3, hn3⟩ := hK3.box g2 hn2; obtain ⟨x0, x1, x2, x3, _, _, _, _⟩ := in4 g3)
    | (go_at_call 101; refine (hdec O3 w3 hC3).mono ?_; intro e w4 hq; rcases hq.par with ⟨cd, a, he, rfl, hbp⟩ | ⟨c4, he4, rfl, O4, hC4, hK4⟩; (exact ⟨rfl, .inr ⟨cd, a, f2.out _ _ _ he2 he, rfl, hbp⟩⟩); refine Hid.out ?_))
  have hkp4 := Kp.declare he4
  have hl4 := hkp4.len
  have hs4 := (declareC_ok he4).1
  have hlv4 : sumL c4.bl ≤ 30 := Lv.declare he4 (by show sumL ([] :: c2.bl) ≤ 30; rw [sumL_cons]; simpa using hlv2)
  have hNB4 := hkp4.nb (NB.begin (c := c2) hNB2)
  have ht4 := hkp4.tail
  simp only [List.length_cons, List.tail_cons] at hl4 hs4 ht4
  obtain ⟨g4, hn4⟩ := hK4.box g3 hn3
  have hCK4 := hCK2.trans (hK3.trans hK4)
  obtain ⟨v0, v1, v2, v3, _, _, _, _⟩ := in4 g4
  simp only at v0 v1 v2 v3
  have hbd := hbody.out w4 hC4.bl
  have hin := fun w5 (hC5 : Ck w0 B u ub uc fm O4 c4.sl c4.bl (sumL c4.bl) w5) => hz.out w0 B u ub uc fm O4 c4.sl c4.bl bz cz w5 hC5 hzN.out (by omega) (by omega) hlv4 hNB4 (fun e => by rw [e] at hl4; simp at hl4) hul
  clear hbeg hdec x0 x1 x2 x3 hC3 hK3 hK4 hCK2 y0 y1 y2 y3
  refine Lib.hid ?_
  go_wp2_with (first
    | (go_at_call 68; refine hbd.mono ?_; rintro e w5 ⟨rfl, hb5⟩; have hC5 := hC4.on hb5)
    | (go_at_call 67; refine (hin w5 hC5).mono ?_; intro e w6 hq; rcases hq.par with ⟨cd, a, he, rfl, hbp⟩ | ⟨c6, he6, rfl, O6, hC6, hK6⟩; (exact ⟨rfl, .inr ⟨cd, a, f3.out _ _ _ _ he2 he4 he, rfl, hbp⟩⟩); refine Hid.out ?_))
  have hkp6 := vis_keep _ _ _ _ _ he6
  have hlv6 : sumL c6.bl ≤ 30 := vis_lv _ _ _ _ _ he6 hlv4
  obtain ⟨fb, hfb⟩ := tail_of (hkp6.tail.trans ht4) (by rw [hkp6.len]; exact hl4)
  have hCK6 := hCK4.trans ((CK.below (O := O4) hb5).trans hK6)
  have hend := end_any w0 B u ub uc fm O6 c6.sl fb c2.bl (sumL c6.bl) w6 (by rw [← hfb]; exact hC6) (by omega) (by omega) (by rw [hfb])
  have fin : Hid (∀ W', Ck w0 B u ub uc fm O6 c6.sl c2.bl (sumL c2.bl) W' → CK O6 w6 O6 W' → CQ w0 B u ub uc fm O W R (.returned (.tuple #[])) W') := fun W' h1 h2 => .inl ⟨c6.close, f4.out _ _ _ he2 he4 he6, rfl, O6, by rw [show c6.close.bl = c2.bl by show c6.bl.tail = _; rw [hfb]; rfl]; exact h1, hCK6.trans h2⟩
  clear hbd hin hC6 hK6 hCK4 v0 v1 v2 v3
  refine Lib.hid ?_
  go_wp2_with (go_at_call 69; refine hend.mono ?_; rintro e w7 ⟨rfl, hC7, hK7⟩)
  go_end0
  exact fin.out _ hC7 hK7
end Go.Proofs.YtnnppenlfocgiaaGreatDoor
