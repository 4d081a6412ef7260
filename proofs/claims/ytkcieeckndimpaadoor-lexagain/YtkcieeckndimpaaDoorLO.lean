/- LexAgain, walked. -/
import Derived.Test.YtkcieeckndimpaaDoorLL
namespace Go.Proofs.YtkcieeckndimpaaDoor
open Go.RowKit
open Go

theorem scan_bad_ne : ∀ (m : Nat) (l : List UInt8) (a : Nat) (e : Int) (p : Nat), l.length ≤ m → scanR a l = .bad e p → (e == 0) = false
  | 0, l, a, e, p, h, hs => by
    obtain rfl : l = [] := List.eq_nil_of_length_eq_zero (by omega)
    rw [scanR_nil] at hs; cases hs
  | m + 1, l, a, e, p, h, hs => by
    by_cases h0 : l = []
    · subst h0; rw [scanR_nil] at hs; cases hs
    by_cases h1 : gap1 l = 0
    · cases ht : tokR l using TokR.byCases with
      | bad e' =>
        rw [scanR_bad h0 h1 ht] at hs
        cases hs
        exact (bad_ne ht).1
      | tok k t n =>
        have hz := tok_size ht
        rw [scanR_tok h0 h1 ht] at hs
        cases hq : scanR (a + n) (l.drop n) using ScanR.byCases with
        | bad e' p' =>
          rw [hq] at hs
          cases hs
          exact scan_bad_ne m (l.drop n) _ _ _ (by simp; omega) hq
        | toks us =>
          rw [hq] at hs
          cases hs
    · have h2 := gap1_le l
      rw [scanR_gap h1] at hs
      exact scan_bad_ne m (l.drop (gap1 l)) _ _ _ (by simp; omega) hs

theorem scan_one : toksOf (scanAll [97]) = [⟨1, [97], 0⟩] ∧ codeOf (scanAll [97]) = 0 ∧ placeOf (scanAll [97]) = 0 := by
  refine ⟨rfl, rfl, rfl⟩

theorem pr_take (ts : List Tok) (k : Nat) (x : Tok) (hx : ts[k]? = some x) : prAll (ts.take (k + 1)) = prAll (ts.take k) ++ prT x := by
  simp [prAll, List.take_add_one, hx]
theorem pr_take_le (ts : List Tok) (k : Nat) : (prAll (ts.take k)).length ≤ (prAll ts).length := by
  have : prAll ts = prAll (ts.take k) ++ prAll (ts.drop k) := by
    unfold prAll
    rw [← List.flatMap_append, List.take_append_drop]
  rw [this, List.length_append]
  omega
theorem app_list (a b : ByteArray) : (a ++ b).data.toList = a.data.toList ++ b.data.toList := by simp
theorem size_list (a : ByteArray) : a.size = a.data.toList.length := by simp

theorem map_get {ts us : List Tok} (h : us.map (fun t => (t.k, t.t)) = ts.map (fun t => (t.k, t.t))) {j : Nat} {x y : Tok} (hx : ts[j]? = some x) (hy : us[j]? = some y) : y.k = x.k ∧ y.b = x.b := by
  have e : (us.map (fun t => (t.k, t.t)))[j]? = (ts.map (fun t => (t.k, t.t)))[j]? := by rw [h]
  rw [List.getElem?_map, List.getElem?_map, hx, hy] at e
  simp at e
  exact ⟨e.1, by unfold Tok.b; rw [e.2]⟩

theorem out_bad {w w' : World} {e : Int} {p : Nat} {x : Ending} (h : Out w (.bad e p) x w') : (∃ b d, x = .returned (.tuple #[.slice b 0 d, .agg #[.int .i64 e, .int .i64 (p : Nat)]])) ∧ Below w.heap.size w w' := by
  obtain ⟨b, n, d, hx, ho⟩ := h.out
  obtain ⟨rfl, _⟩ := reads_of ho
  exact ⟨⟨b, d, hx⟩, h.bl⟩
theorem out_toks {w w' : World} {ts : List Tok} {x : Ending} (h : Out w (.toks ts) x w') : (∃ b d, x = .returned (.tuple #[.slice b ts.length d, .agg #[.int .i64 0, .int .i64 0]]) ∧ Reads w' b ts) ∧ Below w.heap.size w w' := by
  obtain ⟨b, n, d, hx, ho⟩ := h.out
  obtain ⟨rfl, hr⟩ := reads_of ho
  exact ⟨⟨b, d, hx, hr⟩, h.bl⟩

set_option maxRecDepth 20000 in
set_option maxHeartbeats 4000000 in
theorem again_any (s : ByteArray) (w : World) (hE : ErrV w) :
    Calls Tryd.prog 8 #[.string s] w fun e w' => e = .returned (.bool true) ∧ Below w.heap.size w w' := by
  have hA := scan_any ⟨#[97]⟩ w hE
  have h1 := scan_one
  obtain ⟨Ra, hRa⟩ : ∃ Ra, scanAll [97] = Ra := ⟨_, rfl⟩
  have hRa' : scanAll (⟨#[97]⟩ : ByteArray).data.toList = Ra := hRa
  rw [hRa'] at hA
  rw [hRa] at h1
  obtain ⟨q1, q2, q3⟩ := h1
  clear hRa hRa'
  by_cases hbig : 1333 < s.size
  · have hbig' : (1333 : Int) < (s.size : Int) := by omega
    go_enter Tryd.func8, Tryd.ntmps8
    go_wp2_with (go_at_call 18; refine hA.mono ?_; rintro e w1 ⟨⟨b, n, d, rfl, hown⟩, hb⟩; have hn := (reads_of hown).1; rw [q1] at hn; simp only [List.length_cons, List.length_nil, Nat.zero_add] at hn; subst hn)
    go_ret
    exact ⟨rfl, ext_alloc hb _⟩
  · have hbig' : ¬ (1333 : Int) < (s.size : Int) := by omega
    have hlen : s.data.toList.length = s.size := by simp
    have hsc : scanAll s.data.toList = scanR 0 s.data.toList := by
      unfold scanAll
      rw [if_neg (by rw [hlen]; omega)]
    have hB := fun u (hb : Below w.heap.size w u) => scan_any s u (ErrV.on hE hb)
    rw [hsc] at hB
    clear hsc
    cases hR : scanR 0 s.data.toList using ScanR.byCases with
    | bad e p =>
      have hne := scan_bad_ne _ _ _ _ _ (Nat.le_refl _) hR
      rw [hR] at hB
      clear hR hlen
      go_enter Tryd.func8, Tryd.ntmps8
      go_wp2_with (go_at_call 18; refine hA.mono ?_; rintro e w1 ⟨⟨b, n, d, rfl, hown⟩, hb⟩; have hn := (reads_of hown).1; rw [q1] at hn; simp only [List.length_cons, List.length_nil, Nat.zero_add] at hn; subst hn; refine Hid.out ?_)
      refine Lib.hid ?_
      go_wp2_with (go_at_call 18; refine ((hB _ (ext_alloc hb _)).mono (fun _ _ h => out_bad h)).mono ?_; rintro e w2 ⟨⟨b2, d2, rfl⟩, hb2⟩)
      go_ret
      exact ⟨rfl, ext_alloc (ext_trans (ext_alloc hb _) hb2) _⟩
    | toks ts =>
      obtain ⟨hpl, hpa⟩ := scan_again _ _ _ _ (Nat.le_refl _) hR
      obtain ⟨us, hus, hmap⟩ := hpa 0
      have htl := toks_len _ s.data.toList 0 (Nat.le_refl _)
      rw [hR] at hB htl
      have htl2 : ts.length ≤ 1333 := by
        have : (toksOf (.toks ts)).length = ts.length := rfl
        omega
      have hpl2 : (prAll ts).length ≤ 2666 := by omega
      have hul : us.length = ts.length := by
        have := congrArg List.length hmap
        simpa using this
      have hsc2 : scanAll (prAll ts) = .toks us := by
        unfold scanAll
        rw [if_neg (by omega), hus]
      clear hR hlen hpl hpa hus htl
      go_enter Tryd.func8, Tryd.ntmps8
      go_wp2_with (go_at_call 18; refine hA.mono ?_; rintro e w1 ⟨⟨b, n, d, rfl, hown⟩, hb⟩; have hn := (reads_of hown).1; rw [q1] at hn; simp only [List.length_cons, List.length_nil, Nat.zero_add] at hn; subst hn; refine Hid.out ?_)
      refine Lib.hid ?_
      go_wp2_with (go_at_call 18; refine ((hB _ (ext_alloc hb _)).mono (fun _ _ h => out_toks h)).mono ?_; rintro e w2 ⟨⟨b2, d2, rfl, hr2⟩, hb2⟩; refine Hid.out ?_)
      replace hb := ext_trans (ext_alloc hb _) hb2
      replace hr2 := hr2.on (ext_alloc (Below.refl _ _) (.cells #[.int .i64 0, .int .i64 0] 35))
      replace hb := ext_alloc hb (.cells #[.int .i64 0, .int .i64 0] 35)
      clear hb2 hB hA hown
      replace hul : Hid _ := hul
      replace hmap : Hid _ := hmap
      replace hsc2 : Hid _ := hsc2
      replace hE : Hid _ := hE
      refine Lib.hid ?_
      go_wp2
      go_loop [7, 8] (fun v i => ∃ (k : Nat) (S : ByteArray), k ≤ ts.length ∧ i = .int .i64 k ∧ v = .string S ∧ S.data.toList = prAll (ts.take k)) (fun _ i => ts.length - (intOf i).toNat)
      case atStart => exact ⟨0, ⟨#[]⟩, Nat.zero_le _, rfl, rfl, rfl⟩
      case round =>
        obtain ⟨k, S, hk, rfl, rfl, hS⟩ := hrel
        have hSz : S.size ≤ 2666 := by
          have := pr_take_le ts k
          rw [← hS, ← size_list] at this
          omega
        by_cases hlt : k < ts.length
        · have hk1 : (k : Int) < (ts.length : Int) := by omega
          obtain ⟨x, hx⟩ : ∃ x, ts[k]? = some x := ⟨ts[k], by simp [hlt]⟩
          obtain ⟨g, rfl, a0, a1, a2⟩ := hr2 k x hx
          have hpt := pr_take ts k x hx
          have hple := pr_take_le ts (k + 1)
          rw [hpt, List.length_append] at hple
          rw [← hS] at hpt
          have hxb : x.b.data.toList = x.t := by simp [Tok.b]
          have hxz : x.b.size = x.t.length := by rw [size_list, hxb]
          have hprl : x.t.length ≤ (prT x).length := by unfold prT; split <;> simp <;> omega
          have hxz2 : x.b.size ≤ 2666 := by omega
          replace hpt : Hid _ := hpt
          replace hxb : Hid _ := hxb
          replace hr2 : Hid _ := hr2
          clear hx hS hple hxz hprl
          by_cases h3 : x.k = 3
          · have h3' : (x.k == 3) = true := by simp [h3]
            have hpr : Hid (prT x = 34 :: (x.t ++ [34, 32])) := by show prT x = _; unfold prT; rw [if_pos h3]; simp
            clear h3
            go_wp2
            go_round
            case rel => exact ⟨k + 1, _, by omega, by go_num, rfl, by rw [hpt.out, hpr.out, app_list, app_list, app_list, hxb.out]; simp⟩
            case measure => simp [intOf]; omega
          · have h3' : (x.k == 3) = false := by simpa using h3
            have hpr : Hid (prT x = x.t ++ [32]) := by show prT x = _; unfold prT; rw [if_neg h3]
            clear h3
            go_wp2
            go_round
            case rel => exact ⟨k + 1, _, by omega, by go_num, rfl, by rw [hpt.out, hpr.out, app_list, app_list, hxb.out]; simp⟩
            case measure => simp [intOf]; omega
        · have hk1 : ¬ (k : Int) < (ts.length : Int) := by omega
          rw [List.take_of_length_le (by omega)] at hS
          have hC := fun u (hb : Below w.heap.size w u) => scan_any S u (ErrV.on hE.out hb)
          rw [hS, hsc2.out] at hC
          clear hS
          go_wp2_with (go_at_call 18; refine ((hC _ hb).mono (fun _ _ h => out_toks h)).mono ?_; rintro e w3 ⟨⟨b3, d3, rfl, hr3⟩, hb3⟩; refine Hid.out ?_)
          rw [hul.out]
          replace hr2 := (hr2.on hb3).on (ext_alloc (Below.refl _ _) (.cells #[.int .i64 0, .int .i64 0] 35))
          replace hr3 := hr3.on (ext_alloc (Below.refl _ _) (.cells #[.int .i64 0, .int .i64 0] 35))
          replace hb := ext_alloc (ext_trans hb hb3) (.cells #[.int .i64 0, .int .i64 0] 35)
          clear hb3 hC
          refine Lib.hid ?_
          go_wp2
          go_loopw [11] (fun i wr => ∃ j : Nat, j ≤ ts.length ∧ i = .int .i64 j ∧ Below w.heap.size w wr ∧ Reads wr b2 ts ∧ Reads wr b3 us) (fun i _ => ts.length - (intOf i).toNat)
          case atStart => exact ⟨0, Nat.zero_le _, rfl, hb, hr2, hr3⟩
          case round =>
            clear hb hr2 hr3
            obtain ⟨j, hj, rfl, hb, hr2, hr3⟩ := hrel
            by_cases hjl : j < ts.length
            · have hj0 : (0 : Int) ≤ (j : Int) := by omega
              have hj1 : (j : Int) < (ts.length : Int) := by omega
              obtain ⟨x, hx⟩ : ∃ x, ts[j]? = some x := ⟨ts[j], by simp [hjl]⟩
              obtain ⟨y, hy⟩ : ∃ y, us[j]? = some y := ⟨us[j]'(by rw [hul.out]; exact hjl), List.getElem?_eq_getElem _⟩
              obtain ⟨ek, eb⟩ := map_get hmap.out hx hy
              obtain ⟨g, rfl, a0, a1, a2⟩ := hr2 j x hx
              obtain ⟨g', rfl, z0, z1, z2⟩ := hr3 j y hy
              rw [ek] at z0
              rw [eb] at z1
              replace hr2 : Hid _ := hr2
              replace hr3 : Hid _ := hr3
              clear hx hy ek eb
              go_wp2
              go_quiet (fail)
              go_wp2
              go_roundw
              case rel => exact ⟨j + 1, by omega, by go_num, below_drewN hb nq, Reads.on hr2.out (below_drewN (Below.refl _ _) nq), Reads.on hr3.out (below_drewN (Below.refl _ _) nq)⟩
              case measure => simp [intOf]; omega
            · have hj1 : ¬ (j : Int) < (ts.length : Int) := by omega
              go_wp2
              go_ret
              exact ⟨rfl, hb⟩
end Go.Proofs.YtkcieeckndimpaaDoor
