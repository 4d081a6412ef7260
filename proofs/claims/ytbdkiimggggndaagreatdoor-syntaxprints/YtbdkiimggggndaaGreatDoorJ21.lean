/- The program's printer: is it a place, a call, a statement, a block?. The program's printer: is it a statement, a block, a function, a program?. The program's printer: is it a function?. -/
import Derived.Test.YtbdkiimggggndaaGreatDoorJ20
namespace Go.Proofs.YtbdkiimggggndaaGreatDoor
open Go.RowKit
open Go

set_option maxRecDepth 20000 in
set_option maxHeartbeats 1000000 in
theorem ask_pl (x : Nd) : Ask 122 isPl x := by
  intro m S b cap w hW hok hN
  have hB := (fn_new w m x b cap).b
  have hX := fun u (hb : Below w.heap.size w u) => ask_x x m S b cap u (hW.on hb) hok (hN.below hb)
  obtain ⟨k, t, n, ks⟩ := x
  obtain ⟨U, hU⟩ : ∃ U, (w.alloc m.x).alloc (nbx ⟨k, t, n, ks⟩ b cap) = U := ⟨_, rfl⟩
  rw [hU] at hB
  replace hU : (w.alloc (.cells #[.map (some m.a), .map (some m.b), .map (some m.c), .map (some m.d), .map (some m.e)] 50)).alloc (.cells #[.int .i64 k, sk t, .int .i64 n, .slice b ks.length cap] 24) = U := hU
  have hB0 := hB
  obtain ⟨⟨g1, g2, hbU⟩, ⟨c0, c1, c2, c3, f0, f1, f2, f3⟩, ⟨d0, d1, d2, d3, d4⟩⟩ := hB0
  have hBg : ∀ u, Below w.heap.size w u → isX ⟨k, t, n, ks⟩ → Calls Tryz.prog 145 #[ndv ⟨k, t, n, ks⟩ b cap, .slice (some ⟨u.heap.size, 0, none⟩) 1 1] (u.alloc (.cells #[.int .i64 20] 3)) fun e w' => e = .returned (.bool (begB [20] ⟨k, t, n, ks⟩)) ∧ Below (u.alloc (.cells #[.int .i64 20] 3)).heap.size (u.alloc (.cells #[.int .i64 20] 3)) w' := by
    intro u hu hx
    have gQ := alloc_new u (.cells #[.int .i64 20] 3)
    refine begins_any [20] ⟨k, t, n, ks⟩ b cap S u.heap.size 1 (u.alloc (.cells #[.int .i64 20] 3)) (by decide) ?_ (beg_ok _ hx.1 hx.2).1 (hN.below (ext_alloc hu _))
    intro v hb j hj
    match j, hj with
      | 0, _ => exact cell_block (block_below hb gQ) rfl
  go_enter Tryz.func122, Tryz.ntmps122
  go_wp2_with (go_at_call 121; refine (hX _ hbU).mono ?_; rintro e w1 ⟨⟨y, rfl, hy⟩, hb1⟩; refine Hid.out ?_)
  cases y with
  | false =>
    have hnx : ¬ isX ⟨k, t, n, ks⟩ := fun h => (by have := hy.2 h; cases this)
    replace hnx : Hid _ := hnx
    clear hy
    refine Lib.hid ?_
    go_wp2
    go_ret
    exact ⟨⟨false, rfl, ⟨fun h => (by cases h), fun h => absurd h.1 hnx.out⟩⟩, ext_trans hbU hb1⟩
  | true =>
    have hx := hy.1 rfl
    replace hB := hB.on hb1
    have hB1 := hB
    have hc := fun hu => hBg w1 hu hx
    replace hx : Hid _ := hx
    clear hy hBg
    obtain ⟨⟨g1, g2, hbU⟩, ⟨c0, c1, c2, c3, f0, f1, f2, f3⟩, ⟨d0, d1, d2, d3, d4⟩⟩ := hB1
    have hcb := hc hbU
    refine Lib.hid ?_
    go_wp2_with (go_at_call 145; refine hcb.mono ?_; rintro e w2 ⟨rfl, hb2⟩)
    go_ret
    exact ⟨⟨_, rfl, (beg_chain ⟨k, t, n, ks⟩).1.trans ⟨fun h => ⟨hx.out, h⟩, fun h => h.2⟩⟩, ext_trans (ext_alloc hbU _) hb2⟩
set_option maxRecDepth 20000 in
set_option maxHeartbeats 1000000 in
theorem ask_cl (x : Nd) : Ask 123 isCl x := by
  intro m S b cap w hW hok hN
  have hB := (fn_new w m x b cap).b
  have hX := fun u (hb : Below w.heap.size w u) => ask_x x m S b cap u (hW.on hb) hok (hN.below hb)
  obtain ⟨k, t, n, ks⟩ := x
  obtain ⟨U, hU⟩ : ∃ U, (w.alloc m.x).alloc (nbx ⟨k, t, n, ks⟩ b cap) = U := ⟨_, rfl⟩
  rw [hU] at hB
  replace hU : (w.alloc (.cells #[.map (some m.a), .map (some m.b), .map (some m.c), .map (some m.d), .map (some m.e)] 50)).alloc (.cells #[.int .i64 k, sk t, .int .i64 n, .slice b ks.length cap] 24) = U := hU
  have hB0 := hB
  obtain ⟨⟨g1, g2, hbU⟩, ⟨c0, c1, c2, c3, f0, f1, f2, f3⟩, ⟨d0, d1, d2, d3, d4⟩⟩ := hB0
  have hBg : ∀ u, Below w.heap.size w u → isX ⟨k, t, n, ks⟩ → Calls Tryz.prog 145 #[ndv ⟨k, t, n, ks⟩ b cap, .slice (some ⟨u.heap.size, 0, none⟩) 2 2] (u.alloc (.cells #[.int .i64 20, .int .i64 21] 3)) fun e w' => e = .returned (.bool (begB [20, 21] ⟨k, t, n, ks⟩)) ∧ Below (u.alloc (.cells #[.int .i64 20, .int .i64 21] 3)).heap.size (u.alloc (.cells #[.int .i64 20, .int .i64 21] 3)) w' := by
    intro u hu hx
    have gQ := alloc_new u (.cells #[.int .i64 20, .int .i64 21] 3)
    refine begins_any [20, 21] ⟨k, t, n, ks⟩ b cap S u.heap.size 2 (u.alloc (.cells #[.int .i64 20, .int .i64 21] 3)) (by decide) ?_ (beg_ok _ hx.1 hx.2).2 (hN.below (ext_alloc hu _))
    intro v hb j hj
    match j, hj with
      | 0, _ => exact cell_block (block_below hb gQ) rfl
      | 1, _ => exact cell_block (block_below hb gQ) rfl
  by_cases hk : k = 21
  · subst hk
    go_enter Tryz.func123, Tryz.ntmps123
    go_wp2_with (go_at_call 121; refine (hX _ hbU).mono ?_; rintro e w1 ⟨⟨y, rfl, hy⟩, hb1⟩; refine Hid.out ?_)
    cases y with
    | false =>
      have hnx : ¬ isX ⟨21, t, n, ks⟩ := fun h => (by have := hy.2 h; cases this)
      replace hnx : Hid _ := hnx
      clear hy
      refine Lib.hid ?_
      go_wp2
      go_ret
      exact ⟨⟨false, rfl, ⟨fun h => (by cases h), fun h => absurd h.1 hnx.out⟩⟩, ext_trans hbU hb1⟩
    | true =>
      have hx := hy.1 rfl
      replace hB := hB.on hb1
      have hB1 := hB
      have hc := fun hu => hBg w1 hu hx
      replace hx : Hid _ := hx
      clear hy hBg
      obtain ⟨⟨g1, g2, hbU⟩, ⟨c0, c1, c2, c3, f0, f1, f2, f3⟩, ⟨d0, d1, d2, d3, d4⟩⟩ := hB1
      have hcb := hc hbU
      refine Lib.hid ?_
      go_wp2_with (go_at_call 145; refine hcb.mono ?_; rintro e w2 ⟨rfl, hb2⟩)
      go_ret
      exact ⟨⟨_, rfl, (beg_chain ⟨21, t, n, ks⟩).2.trans ⟨fun h => ⟨hx.out, rfl, h⟩, fun h => h.2.2⟩⟩, ext_trans (ext_alloc hbU _) hb2⟩
  · have hk' : (k == 21) = false := by simpa using hk
    replace hk : Hid _ := hk
    go_enter Tryz.func123, Tryz.ntmps123
    go_wp2
    go_ret
    exact ⟨⟨false, rfl, ⟨fun h => (by cases h), fun h => absurd h.2.1 hk.out⟩⟩, hbU⟩
set_option maxRecDepth 20000 in
set_option maxHeartbeats 1000000 in
theorem st5 (t : List UInt8) (n : Int) (ks : List Nd) : Ask 103 isS ⟨5, t, n, ks⟩ := by
  intro m S b cap w hW hok hN
  have hB := (fn_new w m ⟨5, t, n, ks⟩ b cap).b
  rw [okN] at hok
  obtain ⟨hok1, hok2, hok3, hok5, hok4⟩ := hok
  rw [okN_go] at hok4
  obtain ⟨U, hU⟩ : ∃ U, (w.alloc m.x).alloc (nbx ⟨5, t, n, ks⟩ b cap) = U := ⟨_, rfl⟩
  rw [hU] at hB
  replace hU : (w.alloc (.cells #[.map (some m.a), .map (some m.b), .map (some m.c), .map (some m.d), .map (some m.e)] 50)).alloc (.cells #[.int .i64 5, sk t, .int .i64 n, .slice b ks.length cap] 24) = U := hU
  have hB0 := hB
  obtain ⟨⟨g1, g2, hbU⟩, ⟨c0, c1, c2, c3, f0, f1, f2, f3⟩, ⟨d0, d1, d2, d3, d4⟩⟩ := hB0
  obtain ⟨⟨lim, hWd⟩, hE⟩ := hW.on hbU
  have hNm := named_any ⟨5, t, n, ks⟩ b cap m.a m.b m.c m.d m.e lim U hE hWd
  dsimp only at hNm
  cases hy1 : (n == 0 && nameB t) with
  | true =>
    rw [hy1] at hNm
    have hq : n = 0 ∧ nameB t = true := by simpa using hy1
    replace hq : Hid _ := hq
    clear hy1
    go_enter Tryz.func103, Tryz.ntmps103
    go_wp2_with (first | (go_at_call 74; refine hNm.mono ?_; rintro e w1 ⟨rfl, hb1⟩; replace hB := hB.on hb1; have hB0 := hB; obtain ⟨⟨g1, g2, hbU⟩, ⟨c0, c1, c2, c3, f0, f1, f2, f3⟩, ⟨d0, d1, d2, d3, d4⟩⟩ := hB0) | (go_at_call 120; refine (each_121 isX ks b cap m S _ _ (hW.on (ext_alloc hbU (.cells #[.func (.func 121) #[m.v] #[]] 34))) (alloc_new _ (.cells #[.func (.func 121) #[m.v] #[]] 34)) (KA.of (hN.below (ext_alloc hbU (.cells #[.func (.func 121) #[m.v] #[]] 34)))) hok4 (fun y hy => ask_x y)).mono ?_; rintro e w2 ⟨⟨y, rfl, hy⟩, hb2⟩))
    go_ret
    exact ⟨⟨y, rfl, hy.trans ⟨fun h => iss5.2 ⟨hq.out, h⟩, fun h => (iss5.1 h).2⟩⟩, ext_trans (ext_alloc hbU _) hb2⟩
  | false =>
    rw [hy1] at hNm
    have hq : ¬ (n = 0 ∧ nameB t = true) := by simpa using hy1
    replace hq : Hid _ := hq
    clear hy1
    go_enter Tryz.func103, Tryz.ntmps103
    go_wp2_with (go_at_call 74; refine hNm.mono ?_; rintro e w1 ⟨rfl, hb1⟩)
    go_ret
    exact ⟨⟨false, rfl, ⟨fun h => (by cases h), fun h => absurd (iss5.1 h).1 hq.out⟩⟩, ext_trans hbU hb1⟩
set_option maxRecDepth 20000 in
set_option maxHeartbeats 1000000 in
theorem st6 (t : List UInt8) (n : Int) (ks : List Nd) : Ask 103 isS ⟨6, t, n, ks⟩ := by
  intro m S b cap w hW hok hN
  have hB := (fn_new w m ⟨6, t, n, ks⟩ b cap).b
  rw [okN] at hok
  obtain ⟨hok1, hok2, hok3, hok5, hok4⟩ := hok
  rw [okN_go] at hok4
  obtain ⟨U, hU⟩ : ∃ U, (w.alloc m.x).alloc (nbx ⟨6, t, n, ks⟩ b cap) = U := ⟨_, rfl⟩
  rw [hU] at hB
  replace hU : (w.alloc (.cells #[.map (some m.a), .map (some m.b), .map (some m.c), .map (some m.d), .map (some m.e)] 50)).alloc (.cells #[.int .i64 6, sk t, .int .i64 n, .slice b ks.length cap] 24) = U := hU
  have hB0 := hB
  obtain ⟨⟨g1, g2, hbU⟩, ⟨c0, c1, c2, c3, f0, f1, f2, f3⟩, ⟨d0, d1, d2, d3, d4⟩⟩ := hB0
  have hBr := bare_any ⟨6, t, n, ks⟩ b cap U
  dsimp only at hBr
  cases hy1 : (t == [] && n == 0) with
  | true =>
    rw [hy1] at hBr
    have hq : t = [] ∧ n = 0 := by simpa using hy1
    replace hq : Hid _ := hq
    clear hy1
    go_enter Tryz.func103, Tryz.ntmps103
    go_wp2_with (first | (go_at_call 39; refine hBr.mono ?_; rintro e w1 ⟨rfl, hb1⟩; replace hB := hB.on hb1; have hB0 := hB; obtain ⟨⟨g1, g2, hbU⟩, ⟨c0, c1, c2, c3, f0, f1, f2, f3⟩, ⟨d0, d1, d2, d3, d4⟩⟩ := hB0) | (go_at_call 120; refine (each_122_121 isPl isX ks b cap m S _ _ (hW.on (ext_alloc hbU (.cells #[.func (.func 122) #[m.v] #[], .func (.func 121) #[m.v] #[]] 34))) (alloc_new _ (.cells #[.func (.func 122) #[m.v] #[], .func (.func 121) #[m.v] #[]] 34)) (KA.of (hN.below (ext_alloc hbU (.cells #[.func (.func 122) #[m.v] #[], .func (.func 121) #[m.v] #[]] 34)))) hok4 (fun y hy => ask_pl y) (fun y hy => ask_x y)).mono ?_; rintro e w2 ⟨⟨y, rfl, hy⟩, hb2⟩))
    go_ret
    exact ⟨⟨y, rfl, hy.trans ⟨fun h => iss6.2 ⟨hq.out, h⟩, fun h => (iss6.1 h).2⟩⟩, ext_trans (ext_alloc hbU _) hb2⟩
  | false =>
    rw [hy1] at hBr
    have hq : ¬ (t = [] ∧ n = 0) := by simpa using hy1
    replace hq : Hid _ := hq
    clear hy1
    go_enter Tryz.func103, Tryz.ntmps103
    go_wp2_with (go_at_call 39; refine hBr.mono ?_; rintro e w1 ⟨rfl, hb1⟩)
    go_ret
    exact ⟨⟨false, rfl, ⟨fun h => (by cases h), fun h => absurd (iss6.1 h).1 hq.out⟩⟩, ext_trans hbU hb1⟩
set_option maxRecDepth 20000 in
set_option maxHeartbeats 1000000 in
theorem st7 (t : List UInt8) (n : Int) (ks : List Nd) : Ask 103 isS ⟨7, t, n, ks⟩ := by
  intro m S b cap w hW hok hN
  have hB := (fn_new w m ⟨7, t, n, ks⟩ b cap).b
  rw [okN] at hok
  obtain ⟨hok1, hok2, hok3, hok5, hok4⟩ := hok
  rw [okN_go] at hok4
  obtain ⟨U, hU⟩ : ∃ U, (w.alloc m.x).alloc (nbx ⟨7, t, n, ks⟩ b cap) = U := ⟨_, rfl⟩
  rw [hU] at hB
  replace hU : (w.alloc (.cells #[.map (some m.a), .map (some m.b), .map (some m.c), .map (some m.d), .map (some m.e)] 50)).alloc (.cells #[.int .i64 7, sk t, .int .i64 n, .slice b ks.length cap] 24) = U := hU
  have hB0 := hB
  obtain ⟨⟨g1, g2, hbU⟩, ⟨c0, c1, c2, c3, f0, f1, f2, f3⟩, ⟨d0, d1, d2, d3, d4⟩⟩ := hB0
  have hBr := bare_any ⟨7, t, n, ks⟩ b cap U
  dsimp only at hBr
  cases hy1 : (t == [] && n == 0) with
  | true =>
    rw [hy1] at hBr
    have hq : t = [] ∧ n = 0 := by simpa using hy1
    replace hq : Hid _ := hq
    clear hy1
    go_enter Tryz.func103, Tryz.ntmps103
    go_wp2_with (first | (go_at_call 39; refine hBr.mono ?_; rintro e w1 ⟨rfl, hb1⟩; replace hB := hB.on hb1; have hB0 := hB; obtain ⟨⟨g1, g2, hbU⟩, ⟨c0, c1, c2, c3, f0, f1, f2, f3⟩, ⟨d0, d1, d2, d3, d4⟩⟩ := hB0) | (go_at_call 120; refine (each_123 isCl ks b cap m S _ _ (hW.on (ext_alloc hbU (.cells #[.func (.func 123) #[m.v] #[]] 34))) (alloc_new _ (.cells #[.func (.func 123) #[m.v] #[]] 34)) (KA.of (hN.below (ext_alloc hbU (.cells #[.func (.func 123) #[m.v] #[]] 34)))) hok4 (fun y hy => ask_cl y)).mono ?_; rintro e w2 ⟨⟨y, rfl, hy⟩, hb2⟩))
    go_ret
    exact ⟨⟨y, rfl, hy.trans ⟨fun h => iss7.2 ⟨hq.out, h⟩, fun h => (iss7.1 h).2⟩⟩, ext_trans (ext_alloc hbU _) hb2⟩
  | false =>
    rw [hy1] at hBr
    have hq : ¬ (t = [] ∧ n = 0) := by simpa using hy1
    replace hq : Hid _ := hq
    clear hy1
    go_enter Tryz.func103, Tryz.ntmps103
    go_wp2_with (go_at_call 39; refine hBr.mono ?_; rintro e w1 ⟨rfl, hb1⟩)
    go_ret
    exact ⟨⟨false, rfl, ⟨fun h => (by cases h), fun h => absurd (iss7.1 h).1 hq.out⟩⟩, ext_trans hbU hb1⟩
set_option maxRecDepth 20000 in
set_option maxHeartbeats 1000000 in
theorem st9 (t : List UInt8) (n : Int) (ks : List Nd) (ihB : ∀ y ∈ ks, Ask 76 (isK 4) y) : Ask 103 isS ⟨9, t, n, ks⟩ := by
  intro m S b cap w hW hok hN
  have hB := (fn_new w m ⟨9, t, n, ks⟩ b cap).b
  rw [okN] at hok
  obtain ⟨hok1, hok2, hok3, hok5, hok4⟩ := hok
  rw [okN_go] at hok4
  obtain ⟨U, hU⟩ : ∃ U, (w.alloc m.x).alloc (nbx ⟨9, t, n, ks⟩ b cap) = U := ⟨_, rfl⟩
  rw [hU] at hB
  replace hU : (w.alloc (.cells #[.map (some m.a), .map (some m.b), .map (some m.c), .map (some m.d), .map (some m.e)] 50)).alloc (.cells #[.int .i64 9, sk t, .int .i64 n, .slice b ks.length cap] 24) = U := hU
  have hB0 := hB
  obtain ⟨⟨g1, g2, hbU⟩, ⟨c0, c1, c2, c3, f0, f1, f2, f3⟩, ⟨d0, d1, d2, d3, d4⟩⟩ := hB0
  have hBr := bare_any ⟨9, t, n, ks⟩ b cap U
  dsimp only at hBr
  cases hy1 : (t == [] && n == 0) with
  | true =>
    rw [hy1] at hBr
    have hq : t = [] ∧ n = 0 := by simpa using hy1
    replace hq : Hid _ := hq
    clear hy1
    go_enter Tryz.func103, Tryz.ntmps103
    go_wp2_with (first | (go_at_call 39; refine hBr.mono ?_; rintro e w1 ⟨rfl, hb1⟩; replace hB := hB.on hb1; have hB0 := hB; obtain ⟨⟨g1, g2, hbU⟩, ⟨c0, c1, c2, c3, f0, f1, f2, f3⟩, ⟨d0, d1, d2, d3, d4⟩⟩ := hB0) | (go_at_call 120; refine (each_121_76 isX (isK 4) ks b cap m S _ _ (hW.on (ext_alloc hbU (.cells #[.func (.func 121) #[m.v] #[], .func (.func 76) #[m.v] #[]] 34))) (alloc_new _ (.cells #[.func (.func 121) #[m.v] #[], .func (.func 76) #[m.v] #[]] 34)) (KA.of (hN.below (ext_alloc hbU (.cells #[.func (.func 121) #[m.v] #[], .func (.func 76) #[m.v] #[]] 34)))) hok4 (fun y hy => ask_x y) (fun y hy => ihB y (List.mem_of_getElem? hy))).mono ?_; rintro e w2 ⟨⟨y, rfl, hy⟩, hb2⟩))
    go_ret
    exact ⟨⟨y, rfl, hy.trans ⟨fun h => iss9.2 ⟨hq.out, h⟩, fun h => (iss9.1 h).2⟩⟩, ext_trans (ext_alloc hbU _) hb2⟩
  | false =>
    rw [hy1] at hBr
    have hq : ¬ (t = [] ∧ n = 0) := by simpa using hy1
    replace hq : Hid _ := hq
    clear hy1
    go_enter Tryz.func103, Tryz.ntmps103
    go_wp2_with (go_at_call 39; refine hBr.mono ?_; rintro e w1 ⟨rfl, hb1⟩)
    go_ret
    exact ⟨⟨false, rfl, ⟨fun h => (by cases h), fun h => absurd (iss9.1 h).1 hq.out⟩⟩, ext_trans hbU hb1⟩
set_option maxRecDepth 20000 in
set_option maxHeartbeats 1000000 in
theorem st10 (t : List UInt8) (n : Int) (ks : List Nd) (ihB : ∀ y ∈ ks, Ask 76 (isK 4) y) : Ask 103 isS ⟨10, t, n, ks⟩ := by
  intro m S b cap w hW hok hN
  have hB := (fn_new w m ⟨10, t, n, ks⟩ b cap).b
  rw [okN] at hok
  obtain ⟨hok1, hok2, hok3, hok5, hok4⟩ := hok
  rw [okN_go] at hok4
  obtain ⟨U, hU⟩ : ∃ U, (w.alloc m.x).alloc (nbx ⟨10, t, n, ks⟩ b cap) = U := ⟨_, rfl⟩
  rw [hU] at hB
  replace hU : (w.alloc (.cells #[.map (some m.a), .map (some m.b), .map (some m.c), .map (some m.d), .map (some m.e)] 50)).alloc (.cells #[.int .i64 10, sk t, .int .i64 n, .slice b ks.length cap] 24) = U := hU
  have hB0 := hB
  obtain ⟨⟨g1, g2, hbU⟩, ⟨c0, c1, c2, c3, f0, f1, f2, f3⟩, ⟨d0, d1, d2, d3, d4⟩⟩ := hB0
  obtain ⟨⟨lim, hWd⟩, hE⟩ := hW.on hbU
  have hNm := named_any ⟨10, t, n, ks⟩ b cap m.a m.b m.c m.d m.e lim U hE hWd
  dsimp only at hNm
  cases hy1 : (n == 0 && nameB t) with
  | true =>
    rw [hy1] at hNm
    have hq : n = 0 ∧ nameB t = true := by simpa using hy1
    replace hq : Hid _ := hq
    clear hy1
    go_enter Tryz.func103, Tryz.ntmps103
    go_wp2_with (first | (go_at_call 74; refine hNm.mono ?_; rintro e w1 ⟨rfl, hb1⟩; replace hB := hB.on hb1; have hB0 := hB; obtain ⟨⟨g1, g2, hbU⟩, ⟨c0, c1, c2, c3, f0, f1, f2, f3⟩, ⟨d0, d1, d2, d3, d4⟩⟩ := hB0) | (go_at_call 120; refine (each_121_121_76 isX isX (isK 4) ks b cap m S _ _ (hW.on (ext_alloc hbU (.cells #[.func (.func 121) #[m.v] #[], .func (.func 121) #[m.v] #[], .func (.func 76) #[m.v] #[]] 34))) (alloc_new _ (.cells #[.func (.func 121) #[m.v] #[], .func (.func 121) #[m.v] #[], .func (.func 76) #[m.v] #[]] 34)) (KA.of (hN.below (ext_alloc hbU (.cells #[.func (.func 121) #[m.v] #[], .func (.func 121) #[m.v] #[], .func (.func 76) #[m.v] #[]] 34)))) hok4 (fun y hy => ask_x y) (fun y hy => ask_x y) (fun y hy => ihB y (List.mem_of_getElem? hy))).mono ?_; rintro e w2 ⟨⟨y, rfl, hy⟩, hb2⟩))
    go_ret
    exact ⟨⟨y, rfl, hy.trans ⟨fun h => iss10.2 ⟨hq.out, h⟩, fun h => (iss10.1 h).2⟩⟩, ext_trans (ext_alloc hbU _) hb2⟩
  | false =>
    rw [hy1] at hNm
    have hq : ¬ (n = 0 ∧ nameB t = true) := by simpa using hy1
    replace hq : Hid _ := hq
    clear hy1
    go_enter Tryz.func103, Tryz.ntmps103
    go_wp2_with (go_at_call 74; refine hNm.mono ?_; rintro e w1 ⟨rfl, hb1⟩)
    go_ret
    exact ⟨⟨false, rfl, ⟨fun h => (by cases h), fun h => absurd (iss10.1 h).1 hq.out⟩⟩, ext_trans hbU hb1⟩
set_option maxRecDepth 20000 in
set_option maxHeartbeats 1000000 in
theorem st11 (t : List UInt8) (n : Int) (ks : List Nd) : Ask 103 isS ⟨11, t, n, ks⟩ := by
  intro m S b cap w hW hok hN
  have hB := (fn_new w m ⟨11, t, n, ks⟩ b cap).b
  rw [okN] at hok
  obtain ⟨hok1, hok2, hok3, hok5, hok4⟩ := hok
  rw [okN_go] at hok4
  obtain ⟨U, hU⟩ : ∃ U, (w.alloc m.x).alloc (nbx ⟨11, t, n, ks⟩ b cap) = U := ⟨_, rfl⟩
  rw [hU] at hB
  replace hU : (w.alloc (.cells #[.map (some m.a), .map (some m.b), .map (some m.c), .map (some m.d), .map (some m.e)] 50)).alloc (.cells #[.int .i64 11, sk t, .int .i64 n, .slice b ks.length cap] 24) = U := hU
  have hB0 := hB
  obtain ⟨⟨g1, g2, hbU⟩, ⟨c0, c1, c2, c3, f0, f1, f2, f3⟩, ⟨d0, d1, d2, d3, d4⟩⟩ := hB0
  have hBr := bare_any ⟨11, t, n, ks⟩ b cap U
  dsimp only at hBr
  cases hy1 : (t == [] && n == 0) with
  | true =>
    rw [hy1] at hBr
    have hq : t = [] ∧ n = 0 := by simpa using hy1
    replace hq : Hid _ := hq
    clear hy1
    go_enter Tryz.func103, Tryz.ntmps103
    go_wp2_with (first | (go_at_call 39; refine hBr.mono ?_; rintro e w1 ⟨rfl, hb1⟩; replace hB := hB.on hb1; have hB0 := hB; obtain ⟨⟨g1, g2, hbU⟩, ⟨c0, c1, c2, c3, f0, f1, f2, f3⟩, ⟨d0, d1, d2, d3, d4⟩⟩ := hB0) | (go_at_call 120; refine (each_121 isX ks b cap m S _ _ (hW.on (ext_alloc hbU (.cells #[.func (.func 121) #[m.v] #[]] 34))) (alloc_new _ (.cells #[.func (.func 121) #[m.v] #[]] 34)) (KA.of (hN.below (ext_alloc hbU (.cells #[.func (.func 121) #[m.v] #[]] 34)))) hok4 (fun y hy => ask_x y)).mono ?_; rintro e w2 ⟨⟨y, rfl, hy⟩, hb2⟩))
    go_ret
    exact ⟨⟨y, rfl, hy.trans ⟨fun h => (iss11 (k := 11) (by decide)).2 ⟨hq.out, h⟩, fun h => ((iss11 (k := 11) (by decide)).1 h).2⟩⟩, ext_trans (ext_alloc hbU _) hb2⟩
  | false =>
    rw [hy1] at hBr
    have hq : ¬ (t = [] ∧ n = 0) := by simpa using hy1
    replace hq : Hid _ := hq
    clear hy1
    go_enter Tryz.func103, Tryz.ntmps103
    go_wp2_with (go_at_call 39; refine hBr.mono ?_; rintro e w1 ⟨rfl, hb1⟩)
    go_ret
    exact ⟨⟨false, rfl, ⟨fun h => (by cases h), fun h => absurd ((iss11 (k := 11) (by decide)).1 h).1 hq.out⟩⟩, ext_trans hbU hb1⟩
set_option maxRecDepth 20000 in
set_option maxHeartbeats 1000000 in
theorem st12 (t : List UInt8) (n : Int) (ks : List Nd) : Ask 103 isS ⟨12, t, n, ks⟩ := by
  intro m S b cap w hW hok hN
  have hB := (fn_new w m ⟨12, t, n, ks⟩ b cap).b
  rw [okN] at hok
  obtain ⟨hok1, hok2, hok3, hok5, hok4⟩ := hok
  rw [okN_go] at hok4
  obtain ⟨U, hU⟩ : ∃ U, (w.alloc m.x).alloc (nbx ⟨12, t, n, ks⟩ b cap) = U := ⟨_, rfl⟩
  rw [hU] at hB
  replace hU : (w.alloc (.cells #[.map (some m.a), .map (some m.b), .map (some m.c), .map (some m.d), .map (some m.e)] 50)).alloc (.cells #[.int .i64 12, sk t, .int .i64 n, .slice b ks.length cap] 24) = U := hU
  have hB0 := hB
  obtain ⟨⟨g1, g2, hbU⟩, ⟨c0, c1, c2, c3, f0, f1, f2, f3⟩, ⟨d0, d1, d2, d3, d4⟩⟩ := hB0
  have hBr := bare_any ⟨12, t, n, ks⟩ b cap U
  dsimp only at hBr
  cases hy1 : (t == [] && n == 0) with
  | true =>
    rw [hy1] at hBr
    have hq : t = [] ∧ n = 0 := by simpa using hy1
    replace hq : Hid _ := hq
    clear hy1
    go_enter Tryz.func103, Tryz.ntmps103
    go_wp2_with (first | (go_at_call 39; refine hBr.mono ?_; rintro e w1 ⟨rfl, hb1⟩; replace hB := hB.on hb1; have hB0 := hB; obtain ⟨⟨g1, g2, hbU⟩, ⟨c0, c1, c2, c3, f0, f1, f2, f3⟩, ⟨d0, d1, d2, d3, d4⟩⟩ := hB0) | (go_at_call 120; refine (each_121 isX ks b cap m S _ _ (hW.on (ext_alloc hbU (.cells #[.func (.func 121) #[m.v] #[]] 34))) (alloc_new _ (.cells #[.func (.func 121) #[m.v] #[]] 34)) (KA.of (hN.below (ext_alloc hbU (.cells #[.func (.func 121) #[m.v] #[]] 34)))) hok4 (fun y hy => ask_x y)).mono ?_; rintro e w2 ⟨⟨y, rfl, hy⟩, hb2⟩))
    go_ret
    exact ⟨⟨y, rfl, hy.trans ⟨fun h => (iss11 (k := 12) (by decide)).2 ⟨hq.out, h⟩, fun h => ((iss11 (k := 12) (by decide)).1 h).2⟩⟩, ext_trans (ext_alloc hbU _) hb2⟩
  | false =>
    rw [hy1] at hBr
    have hq : ¬ (t = [] ∧ n = 0) := by simpa using hy1
    replace hq : Hid _ := hq
    clear hy1
    go_enter Tryz.func103, Tryz.ntmps103
    go_wp2_with (go_at_call 39; refine hBr.mono ?_; rintro e w1 ⟨rfl, hb1⟩)
    go_ret
    exact ⟨⟨false, rfl, ⟨fun h => (by cases h), fun h => absurd ((iss11 (k := 12) (by decide)).1 h).1 hq.out⟩⟩, ext_trans hbU hb1⟩
end Go.Proofs.YtbdkiimggggndaaGreatDoor
namespace Go.Proofs.YtbdkiimggggndaaGreatDoor
open Go.RowKit
open Go

set_option maxRecDepth 20000 in
set_option maxHeartbeats 1000000 in
theorem st8 (t : List UInt8) (n : Int) (ks : List Nd) (ihB : ∀ y ∈ ks, Ask 76 (isK 4) y) : Ask 103 isS ⟨8, t, n, ks⟩ := by
  intro m S b cap w hW hok hN
  have hB := (fn_new w m ⟨8, t, n, ks⟩ b cap).b
  rw [okN] at hok
  obtain ⟨hok1, hok2, hok3, hok5, hok4⟩ := hok
  rw [okN_go] at hok4
  obtain ⟨U, hU⟩ : ∃ U, (w.alloc m.x).alloc (nbx ⟨8, t, n, ks⟩ b cap) = U := ⟨_, rfl⟩
  rw [hU] at hB
  replace hU : (w.alloc (.cells #[.map (some m.a), .map (some m.b), .map (some m.c), .map (some m.d), .map (some m.e)] 50)).alloc (.cells #[.int .i64 8, sk t, .int .i64 n, .slice b ks.length cap] 24) = U := hU
  have hB0 := hB
  obtain ⟨⟨g1, g2, hbU⟩, ⟨c0, c1, c2, c3, f0, f1, f2, f3⟩, ⟨d0, d1, d2, d3, d4⟩⟩ := hB0
  have hBr := bare_any ⟨8, t, n, ks⟩ b cap U
  dsimp only at hBr
  have h2 := fun u (hb : Below w.heap.size w u) => each_121_76 isX (isK 4) ks b cap m S _ _ (hW.on (ext_alloc hb (.cells #[.func (.func 121) #[m.v] #[], .func (.func 76) #[m.v] #[]] 34))) (alloc_new u (.cells #[.func (.func 121) #[m.v] #[], .func (.func 76) #[m.v] #[]] 34)) (KA.of (hN.below (ext_alloc hb (.cells #[.func (.func 121) #[m.v] #[], .func (.func 76) #[m.v] #[]] 34)))) hok4 (fun y hy => ask_x y) (fun y hy => ihB y (List.mem_of_getElem? hy))
  have h3 := fun u (hb : Below w.heap.size w u) => each_121_76_76 isX (isK 4) (isK 4) ks b cap m S _ _ (hW.on (ext_alloc hb (.cells #[.func (.func 121) #[m.v] #[], .func (.func 76) #[m.v] #[], .func (.func 76) #[m.v] #[]] 34))) (alloc_new u (.cells #[.func (.func 121) #[m.v] #[], .func (.func 76) #[m.v] #[], .func (.func 76) #[m.v] #[]] 34)) (KA.of (hN.below (ext_alloc hb (.cells #[.func (.func 121) #[m.v] #[], .func (.func 76) #[m.v] #[], .func (.func 76) #[m.v] #[]] 34)))) hok4 (fun y hy => ask_x y) (fun y hy => ihB y (List.mem_of_getElem? hy)) (fun y hy => ihB y (List.mem_of_getElem? hy))
  cases hy1 : (t == [] && n == 0) with
  | true =>
    rw [hy1] at hBr
    have hq : t = [] ∧ n = 0 := by simpa using hy1
    replace hq : Hid _ := hq
    clear hy1
    go_enter Tryz.func103, Tryz.ntmps103
    go_wp2_with (first | (go_at_call 39; refine hBr.mono ?_; rintro e w1 ⟨rfl, hb1⟩; replace hB := hB.on hb1; have hB0 := hB; obtain ⟨⟨g1, g2, hbU⟩, ⟨c0, c1, c2, c3, f0, f1, f2, f3⟩, ⟨d0, d1, d2, d3, d4⟩⟩ := hB0) | (go_at_call 120; refine (h2 _ hbU).mono ?_; rintro e w2 ⟨⟨y, rfl, hy⟩, hb2⟩; refine Hid.out ?_))
    have hbx := ext_trans (ext_alloc (Below.refl w1.heap.size w1) (.cells #[.func (.func 121) #[m.v] #[], .func (.func 76) #[m.v] #[]] 34)) hb2
    replace hB := hB.on hbx
    cases y with
    | true =>
      have hyy := hy.1 rfl
      replace hyy : Hid _ := hyy
      clear hy
      refine Lib.hid ?_
      go_wp2
      go_ret
      exact ⟨⟨true, rfl, ⟨fun _ => iss8.2 ⟨hq.out, .inl hyy.out⟩, fun _ => rfl⟩⟩, ext_trans hbU hbx⟩
    | false =>
      have hyn : ¬ (∃ y0 y1, ks = [y0, y1] ∧ isX y0 ∧ isK 4 y1) := fun h => (by have := hy.2 h; cases this)
      replace hyn : Hid _ := hyn
      clear hy
      have hB0 := hB
      obtain ⟨⟨g1, g2, hbU⟩, ⟨c0, c1, c2, c3, f0, f1, f2, f3⟩, ⟨d0, d1, d2, d3, d4⟩⟩ := hB0
      have h3' := h3 _ hbU
      refine Lib.hid ?_
      go_wp2_with (go_at_call 120; refine h3'.mono ?_; rintro e w3 ⟨⟨z, rfl, hz⟩, hb3⟩)
      go_ret
      refine ⟨⟨z, rfl, hz.trans ⟨fun h => iss8.2 ⟨hq.out, .inr h⟩, fun h => ?_⟩⟩, ext_trans (ext_alloc hbU _) hb3⟩
      rcases (iss8.1 h).2 with h | h
      · exact absurd h hyn.out
      · exact h
  | false =>
    rw [hy1] at hBr
    have hq : ¬ (t = [] ∧ n = 0) := by simpa using hy1
    replace hq : Hid _ := hq
    clear hy1
    go_enter Tryz.func103, Tryz.ntmps103
    go_wp2_with (go_at_call 39; refine hBr.mono ?_; rintro e w1 ⟨rfl, hb1⟩)
    go_ret
    exact ⟨⟨false, rfl, ⟨fun h => (by cases h), fun h => absurd (iss8.1 h).1 hq.out⟩⟩, ext_trans hbU hb1⟩
set_option maxRecDepth 20000 in
set_option maxHeartbeats 1000000 in
theorem st_none (t : List UInt8) (n : Int) (ks : List Nd) (k : Int) (hk : ¬ statK k) : Ask 103 isS ⟨k, t, n, ks⟩ := by
  intro m S b cap w hW hok hN
  have hB := (fn_new w m ⟨k, t, n, ks⟩ b cap).b
  rw [okN] at hok
  obtain ⟨hok1, hok2, hok3, hok5, hok4⟩ := hok
  rw [okN_go] at hok4
  obtain ⟨U, hU⟩ : ∃ U, (w.alloc m.x).alloc (nbx ⟨k, t, n, ks⟩ b cap) = U := ⟨_, rfl⟩
  rw [hU] at hB
  replace hU : (w.alloc (.cells #[.map (some m.a), .map (some m.b), .map (some m.c), .map (some m.d), .map (some m.e)] 50)).alloc (.cells #[.int .i64 k, sk t, .int .i64 n, .slice b ks.length cap] 24) = U := hU
  have hB0 := hB
  obtain ⟨⟨g1, g2, hbU⟩, ⟨c0, c1, c2, c3, f0, f1, f2, f3⟩, ⟨d0, d1, d2, d3, d4⟩⟩ := hB0
  have q5 : (k == 5) = false := by simp only [statK] at hk; simp; omega
  have q6 : (k == 6) = false := by simp only [statK] at hk; simp; omega
  have q7 : (k == 7) = false := by simp only [statK] at hk; simp; omega
  have q8 : (k == 8) = false := by simp only [statK] at hk; simp; omega
  have q9 : (k == 9) = false := by simp only [statK] at hk; simp; omega
  have q10 : (k == 10) = false := by simp only [statK] at hk; simp; omega
  have q11 : (k == 11) = false := by simp only [statK] at hk; simp; omega
  have q12 : (k == 12) = false := by simp only [statK] at hk; simp; omega
  go_enter Tryz.func103, Tryz.ntmps103
  go_wp2
  go_ret
  exact ⟨⟨false, rfl, ⟨fun h => (by cases h), fun h => absurd h.2 hk⟩⟩, hbU⟩
set_option maxRecDepth 20000 in
set_option maxHeartbeats 1000000 in
theorem bl4 (t : List UInt8) (n : Int) (ks : List Nd) (ihS : ∀ y ∈ ks, Ask 103 isS y) : Ask 76 (isK 4) ⟨4, t, n, ks⟩ := by
  intro m S b cap w hW hok hN
  have hB := (fn_new w m ⟨4, t, n, ks⟩ b cap).b
  rw [okN] at hok
  obtain ⟨hok1, hok2, hok3, hok5, hok4⟩ := hok
  rw [okN_go] at hok4
  obtain ⟨U, hU⟩ : ∃ U, (w.alloc m.x).alloc (nbx ⟨4, t, n, ks⟩ b cap) = U := ⟨_, rfl⟩
  rw [hU] at hB
  replace hU : (w.alloc (.cells #[.map (some m.a), .map (some m.b), .map (some m.c), .map (some m.d), .map (some m.e)] 50)).alloc (.cells #[.int .i64 4, sk t, .int .i64 n, .slice b ks.length cap] 24) = U := hU
  have hB0 := hB
  obtain ⟨⟨g1, g2, hbU⟩, ⟨c0, c1, c2, c3, f0, f1, f2, f3⟩, ⟨d0, d1, d2, d3, d4⟩⟩ := hB0
  have hBr := bare_any ⟨4, t, n, ks⟩ b cap U
  dsimp only at hBr
  cases hy1 : (t == [] && n == 0) with
  | true =>
    rw [hy1] at hBr
    have hq : t = [] ∧ n = 0 := by simpa using hy1
    replace hq : Hid _ := hq
    clear hy1
    go_enter Tryz.func76, Tryz.ntmps76
    go_wp2_with (first | (go_at_call 39; refine hBr.mono ?_; rintro e w1 ⟨rfl, hb1⟩; replace hB := hB.on hb1; have hB0 := hB; obtain ⟨⟨g1, g2, hbU⟩, ⟨c0, c1, c2, c3, f0, f1, f2, f3⟩, ⟨d0, d1, d2, d3, d4⟩⟩ := hB0) | (go_at_call 40; refine (all_103 isS ks b cap m S _ hok5 (hW.on hbU) (KA.of (hN.below hbU)) hok4 ihS).mono ?_; rintro e w2 ⟨⟨y, rfl, hy⟩, hb2⟩))
    go_ret
    exact ⟨⟨y, rfl, hy.trans ⟨fun h => isk4.2 ⟨hq.out, h⟩, fun h => (isk4.1 h).2⟩⟩, ext_trans hbU hb2⟩
  | false =>
    rw [hy1] at hBr
    have hq : ¬ (t = [] ∧ n = 0) := by simpa using hy1
    replace hq : Hid _ := hq
    clear hy1
    go_enter Tryz.func76, Tryz.ntmps76
    go_wp2_with (go_at_call 39; refine hBr.mono ?_; rintro e w1 ⟨rfl, hb1⟩)
    go_ret
    exact ⟨⟨false, rfl, ⟨fun h => (by cases h), fun h => absurd (isk4.1 h).1 hq.out⟩⟩, ext_trans hbU hb1⟩
set_option maxRecDepth 20000 in
set_option maxHeartbeats 1000000 in
theorem un1 (t : List UInt8) (n : Int) (ks : List Nd) (ihF : ∀ y ∈ ks, Ask 41 (isK 2) y) : Ask 19 (isK 1) ⟨1, t, n, ks⟩ := by
  intro m S b cap w hW hok hN
  have hB := (fn_new w m ⟨1, t, n, ks⟩ b cap).b
  rw [okN] at hok
  obtain ⟨hok1, hok2, hok3, hok5, hok4⟩ := hok
  rw [okN_go] at hok4
  obtain ⟨U, hU⟩ : ∃ U, (w.alloc m.x).alloc (nbx ⟨1, t, n, ks⟩ b cap) = U := ⟨_, rfl⟩
  rw [hU] at hB
  replace hU : (w.alloc (.cells #[.map (some m.a), .map (some m.b), .map (some m.c), .map (some m.d), .map (some m.e)] 50)).alloc (.cells #[.int .i64 1, sk t, .int .i64 n, .slice b ks.length cap] 24) = U := hU
  have hB0 := hB
  obtain ⟨⟨g1, g2, hbU⟩, ⟨c0, c1, c2, c3, f0, f1, f2, f3⟩, ⟨d0, d1, d2, d3, d4⟩⟩ := hB0
  have hBr := bare_any ⟨1, t, n, ks⟩ b cap U
  dsimp only at hBr
  cases hy1 : (t == [] && n == 0) with
  | true =>
    rw [hy1] at hBr
    have hq : t = [] ∧ n = 0 := by simpa using hy1
    replace hq : Hid _ := hq
    clear hy1
    go_enter Tryz.func19, Tryz.ntmps19
    go_wp2_with (first | (go_at_call 39; refine hBr.mono ?_; rintro e w1 ⟨rfl, hb1⟩; replace hB := hB.on hb1; have hB0 := hB; obtain ⟨⟨g1, g2, hbU⟩, ⟨c0, c1, c2, c3, f0, f1, f2, f3⟩, ⟨d0, d1, d2, d3, d4⟩⟩ := hB0) | (go_at_call 40; refine (all_41 (isK 2) ks b cap m S _ hok5 (hW.on hbU) (KA.of (hN.below hbU)) hok4 ihF).mono ?_; rintro e w2 ⟨⟨y, rfl, hy⟩, hb2⟩))
    go_ret
    exact ⟨⟨y, rfl, hy.trans ⟨fun h => isk1.2 ⟨hq.out, h⟩, fun h => (isk1.1 h).2⟩⟩, ext_trans hbU hb2⟩
  | false =>
    rw [hy1] at hBr
    have hq : ¬ (t = [] ∧ n = 0) := by simpa using hy1
    replace hq : Hid _ := hq
    clear hy1
    go_enter Tryz.func19, Tryz.ntmps19
    go_wp2_with (go_at_call 39; refine hBr.mono ?_; rintro e w1 ⟨rfl, hb1⟩)
    go_ret
    exact ⟨⟨false, rfl, ⟨fun h => (by cases h), fun h => absurd (isk1.1 h).1 hq.out⟩⟩, ext_trans hbU hb1⟩
set_option maxRecDepth 20000 in
set_option maxHeartbeats 1000000 in
theorem bl_none (t : List UInt8) (n : Int) (ks : List Nd) (k : Int) (hk : ¬ k = 4) : Ask 76 (isK 4) ⟨k, t, n, ks⟩ := by
  intro m S b cap w hW hok hN
  have hB := (fn_new w m ⟨k, t, n, ks⟩ b cap).b
  rw [okN] at hok
  obtain ⟨hok1, hok2, hok3, hok5, hok4⟩ := hok
  rw [okN_go] at hok4
  obtain ⟨U, hU⟩ : ∃ U, (w.alloc m.x).alloc (nbx ⟨k, t, n, ks⟩ b cap) = U := ⟨_, rfl⟩
  rw [hU] at hB
  replace hU : (w.alloc (.cells #[.map (some m.a), .map (some m.b), .map (some m.c), .map (some m.d), .map (some m.e)] 50)).alloc (.cells #[.int .i64 k, sk t, .int .i64 n, .slice b ks.length cap] 24) = U := hU
  have hB0 := hB
  obtain ⟨⟨g1, g2, hbU⟩, ⟨c0, c1, c2, c3, f0, f1, f2, f3⟩, ⟨d0, d1, d2, d3, d4⟩⟩ := hB0
  have hk' : (k == 4) = false := by simpa using hk
  replace hk : Hid _ := hk
  go_enter Tryz.func76, Tryz.ntmps76
  go_wp2
  go_ret
  exact ⟨⟨false, rfl, ⟨fun h => (by cases h), fun h => absurd h.2 hk.out⟩⟩, hbU⟩
set_option maxRecDepth 20000 in
set_option maxHeartbeats 1000000 in
theorem un_none (t : List UInt8) (n : Int) (ks : List Nd) (k : Int) (hk : ¬ k = 1) : Ask 19 (isK 1) ⟨k, t, n, ks⟩ := by
  intro m S b cap w hW hok hN
  have hB := (fn_new w m ⟨k, t, n, ks⟩ b cap).b
  rw [okN] at hok
  obtain ⟨hok1, hok2, hok3, hok5, hok4⟩ := hok
  rw [okN_go] at hok4
  obtain ⟨U, hU⟩ : ∃ U, (w.alloc m.x).alloc (nbx ⟨k, t, n, ks⟩ b cap) = U := ⟨_, rfl⟩
  rw [hU] at hB
  replace hU : (w.alloc (.cells #[.map (some m.a), .map (some m.b), .map (some m.c), .map (some m.d), .map (some m.e)] 50)).alloc (.cells #[.int .i64 k, sk t, .int .i64 n, .slice b ks.length cap] 24) = U := hU
  have hB0 := hB
  obtain ⟨⟨g1, g2, hbU⟩, ⟨c0, c1, c2, c3, f0, f1, f2, f3⟩, ⟨d0, d1, d2, d3, d4⟩⟩ := hB0
  have hk' : (k == 1) = false := by simpa using hk
  replace hk : Hid _ := hk
  go_enter Tryz.func19, Tryz.ntmps19
  go_wp2
  go_ret
  exact ⟨⟨false, rfl, ⟨fun h => (by cases h), fun h => absurd h.2 hk.out⟩⟩, hbU⟩
set_option maxRecDepth 20000 in
set_option maxHeartbeats 1000000 in
theorem pa_none (t : List UInt8) (n : Int) (ks : List Nd) (k : Int) (hk : ¬ k = 3) : Ask 75 (isK 3) ⟨k, t, n, ks⟩ := by
  intro m S b cap w hW hok hN
  have hB := (fn_new w m ⟨k, t, n, ks⟩ b cap).b
  rw [okN] at hok
  obtain ⟨hok1, hok2, hok3, hok5, hok4⟩ := hok
  rw [okN_go] at hok4
  obtain ⟨U, hU⟩ : ∃ U, (w.alloc m.x).alloc (nbx ⟨k, t, n, ks⟩ b cap) = U := ⟨_, rfl⟩
  rw [hU] at hB
  replace hU : (w.alloc (.cells #[.map (some m.a), .map (some m.b), .map (some m.c), .map (some m.d), .map (some m.e)] 50)).alloc (.cells #[.int .i64 k, sk t, .int .i64 n, .slice b ks.length cap] 24) = U := hU
  have hB0 := hB
  obtain ⟨⟨g1, g2, hbU⟩, ⟨c0, c1, c2, c3, f0, f1, f2, f3⟩, ⟨d0, d1, d2, d3, d4⟩⟩ := hB0
  have hk' : (k == 3) = false := by simpa using hk
  replace hk : Hid _ := hk
  go_enter Tryz.func75, Tryz.ntmps75
  go_wp2
  go_ret
  exact ⟨⟨false, rfl, ⟨fun h => (by cases h), fun h => absurd h.2 hk.out⟩⟩, hbU⟩
theorem ask_bs (x : Nd) : Ask 76 (isK 4) x ∧ Ask 103 isS x := by
  refine nd_ind (m := fun x => Ask 76 (isK 4) x ∧ Ask 103 isS x) (fun k t n ks ih => ⟨?_, ?_⟩) x
  · by_cases hk : k = 4
    · subst hk
      exact bl4 t n ks (fun y hy => (ih y hy).2)
    · exact bl_none t n ks k hk
  · have ihB := fun y hy => (ih y hy).1
    by_cases hk : statK k
    · have hc : k = 5 ∨ k = 6 ∨ k = 7 ∨ k = 8 ∨ k = 9 ∨ k = 10 ∨ k = 11 ∨ k = 12 := by simp only [statK] at hk; omega
      rcases hc with rfl | rfl | rfl | rfl | rfl | rfl | rfl | rfl
      · exact st5 t n ks
      · exact st6 t n ks
      · exact st7 t n ks
      · exact st8 t n ks ihB
      · exact st9 t n ks ihB
      · exact st10 t n ks ihB
      · exact st11 t n ks
      · exact st12 t n ks
    · exact st_none t n ks k hk
set_option maxRecDepth 20000 in
set_option maxHeartbeats 1000000 in
theorem pa3 (t : List UInt8) (n : Int) (ks : List Nd) : Ask 75 (isK 3) ⟨3, t, n, ks⟩ := by
  intro m S b cap w hW hok hN
  have hB := (fn_new w m ⟨3, t, n, ks⟩ b cap).b
  rw [okN] at hok
  obtain ⟨hok1, hok2, hok3, hok5, hok4⟩ := hok
  rw [okN_go] at hok4
  obtain ⟨U, hU⟩ : ∃ U, (w.alloc m.x).alloc (nbx ⟨3, t, n, ks⟩ b cap) = U := ⟨_, rfl⟩
  rw [hU] at hB
  replace hU : (w.alloc (.cells #[.map (some m.a), .map (some m.b), .map (some m.c), .map (some m.d), .map (some m.e)] 50)).alloc (.cells #[.int .i64 3, sk t, .int .i64 n, .slice b ks.length cap] 24) = U := hU
  have hB0 := hB
  obtain ⟨⟨g1, g2, hbU⟩, ⟨c0, c1, c2, c3, f0, f1, f2, f3⟩, ⟨d0, d1, d2, d3, d4⟩⟩ := hB0
  obtain ⟨⟨lim, hWd⟩, hE⟩ := hW.on hbU
  have hNm := named_any ⟨3, t, n, ks⟩ b cap m.a m.b m.c m.d m.e lim U hE hWd
  dsimp only at hNm
  cases hy1 : (n == 0 && nameB t) with
  | true =>
    rw [hy1] at hNm
    have hq : n = 0 ∧ nameB t = true := by simpa using hy1
    replace hq : Hid _ := hq
    clear hy1
    go_enter Tryz.func75, Tryz.ntmps75
    go_wp2_with (first | (go_at_call 74; refine hNm.mono ?_; rintro e w1 ⟨rfl, hb1⟩; replace hB := hB.on hb1; have hB0 := hB; obtain ⟨⟨g1, g2, hbU⟩, ⟨c0, c1, c2, c3, f0, f1, f2, f3⟩, ⟨d0, d1, d2, d3, d4⟩⟩ := hB0))
    go_ret
    refine ⟨⟨_, rfl, ?_⟩, hbU⟩
    rw [isk3]
    constructor
    · intro h
      exact ⟨hq.out, by simpa using h⟩
    · intro h
      simp [h.2]
  | false =>
    rw [hy1] at hNm
    have hq : ¬ (n = 0 ∧ nameB t = true) := by simpa using hy1
    replace hq : Hid _ := hq
    clear hy1
    go_enter Tryz.func75, Tryz.ntmps75
    go_wp2_with (go_at_call 74; refine hNm.mono ?_; rintro e w1 ⟨rfl, hb1⟩)
    go_ret
    exact ⟨⟨false, rfl, ⟨fun h => (by cases h), fun h => absurd (isk3.1 h).1 hq.out⟩⟩, ext_trans hbU hb1⟩
theorem ask_p (x : Nd) : Ask 75 (isK 3) x := by
  obtain ⟨k, t, n, ks⟩ := x
  by_cases hk : k = 3
  · subst hk
    exact pa3 t n ks
  · exact pa_none t n ks k hk
set_option maxRecDepth 20000 in
set_option maxHeartbeats 1000000 in
theorem fu_none (t : List UInt8) (n : Int) (ks : List Nd) (k : Int) (hk : ¬ k = 2) : Ask 41 (isK 2) ⟨k, t, n, ks⟩ := by
  intro m S b cap w hW hok hN
  have hB := (fn_new w m ⟨k, t, n, ks⟩ b cap).b
  rw [okN] at hok
  obtain ⟨hok1, hok2, hok3, hok5, hok4⟩ := hok
  rw [okN_go] at hok4
  obtain ⟨U, hU⟩ : ∃ U, (w.alloc m.x).alloc (nbx ⟨k, t, n, ks⟩ b cap) = U := ⟨_, rfl⟩
  rw [hU] at hB
  replace hU : (w.alloc (.cells #[.map (some m.a), .map (some m.b), .map (some m.c), .map (some m.d), .map (some m.e)] 50)).alloc (.cells #[.int .i64 k, sk t, .int .i64 n, .slice b ks.length cap] 24) = U := hU
  have hB0 := hB
  obtain ⟨⟨g1, g2, hbU⟩, ⟨c0, c1, c2, c3, f0, f1, f2, f3⟩, ⟨d0, d1, d2, d3, d4⟩⟩ := hB0
  have hk' : (k == 2) = false := by simpa using hk
  replace hk : Hid _ := hk
  go_enter Tryz.func41, Tryz.ntmps41
  go_wp2
  go_quiet (fail)
  go_wp2
  go_ret
  exact ⟨⟨false, rfl, ⟨fun h => (by cases h), fun h => absurd h.2 hk.out⟩⟩, drewN_below hbU⟩
end Go.Proofs.YtbdkiimggggndaaGreatDoor
namespace Go.Proofs.YtbdkiimggggndaaGreatDoor
open Go.RowKit
open Go

theorem Ans.yes {f : Nat} {args : Array Value} {q : Prop} {w : World} (h : Calls Tryz.prog f args w (Ans q w)) (hq : q) : Calls Tryz.prog f args w fun e w' => e = .returned (.bool true) ∧ Below w.heap.size w w' := h.mono fun e w' h => by
  obtain ⟨⟨y, rfl, hy⟩, hb⟩ := h
  rw [hy.2 hq]
  exact ⟨rfl, hb⟩
theorem Ans.not {f : Nat} {args : Array Value} {q : Prop} {w : World} (h : Calls Tryz.prog f args w (Ans q w)) (hq : ¬ q) : Calls Tryz.prog f args w fun e w' => e = .returned (.bool false) ∧ Below w.heap.size w w' := h.mono fun e w' h => by
  obtain ⟨⟨y, rfl, hy⟩, hb⟩ := h
  have : y = false := by
    cases y with
    | false => rfl
    | true => exact absurd (hy.1 rfl) hq
  rw [this]
  exact ⟨rfl, hb⟩

set_option maxRecDepth 20000 in
set_option maxHeartbeats 1000000 in
theorem fu2_d (t : List UInt8) (n : Int) (ks : List Nd) (hq : n = 0 ∧ nameB t = true) (hl : 0 < ks.length) (hn : ∀ y ∈ ks.take (ks.length - 1), isK 3 y) : Ask 41 (isK 2) ⟨2, t, n, ks⟩ := by
  intro m S b cap w hW hok hN
  have hB := (fn_new w m ⟨2, t, n, ks⟩ b cap).b
  rw [okN] at hok
  obtain ⟨hok1, hok2, hok3, hok5, hok4⟩ := hok
  rw [okN_go] at hok4
  obtain ⟨U, hU⟩ : ∃ U, (w.alloc m.x).alloc (nbx ⟨2, t, n, ks⟩ b cap) = U := ⟨_, rfl⟩
  rw [hU] at hB
  replace hU : (w.alloc (.cells #[.map (some m.a), .map (some m.b), .map (some m.c), .map (some m.d), .map (some m.e)] 50)).alloc (.cells #[.int .i64 2, sk t, .int .i64 n, .slice b ks.length cap] 24) = U := hU
  have hB0 := hB
  obtain ⟨⟨g1, g2, hbU⟩, ⟨c0, c1, c2, c3, f0, f1, f2, f3⟩, ⟨d0, d1, d2, d3, d4⟩⟩ := hB0
  obtain ⟨⟨lim, hWd⟩, hE⟩ := hW.on hbU.drew
  have hNm := named_any ⟨2, t, n, ks⟩ b cap m.a m.b m.c m.d m.e lim U.drew hE hWd
  dsimp only at hNm
  have hy1 : (n == 0 && nameB t) = true := by simpa using hq
  rw [hy1] at hNm
  obtain ⟨p, hp⟩ : ∃ p, ks.length = p + 1 := ⟨ks.length - 1, by omega⟩
  obtain ⟨y, hy⟩ : ∃ y, ks[p]? = some y := ⟨_, List.getElem?_eq_getElem (by omega)⟩
  have hLe : (ks.length : Int) - 1 = (p : Int) := by omega
  have hcapL : ks.length ≤ cap := (KA.of hN).1
  obtain ⟨g, off, b', cap', rfl, v0, v1, v2, v3, hyV⟩ := KA.at (KA.of hN) hy
  have hA := fun u (hb : Below w.heap.size w u) => all_75 (isK 3) (ks.take p) (some ⟨g, off, none⟩) cap m S u (by simp; omega) (hW.on hb) (KA.take (KA.of (hN.below hb)) p) (fun y hy => hok4 y (List.mem_of_mem_take hy)) (fun y _ => ask_p y)
  rw [show (ks.take p).length = p by simp; omega] at hA
  have hBl := fun u (hb : Below w.heap.size w u) => (ask_bs y).1 m S b' cap' u (hW.on hb) (hok4 y (List.mem_of_getElem? hy)) (hyV.below hb)
  have hpl : p < ks.length := by omega
  have hple : p ≤ ks.length := by omega
  have hi1 : (0 : Int) ≤ (p : Int) := by omega
  have hi2 : (p : Int) ≤ (ks.length : Int) := by omega
  have hi3 : (p : Int) ≤ (cap : Int) := by omega
  have hi4 : (p : Int) < (ks.length : Int) := by omega
  rw [hp, Nat.add_sub_cancel] at hn
  have hA1 := fun u hb => Ans.yes (hA u hb) hn
  replace hq : Hid _ := hq
  replace hn : Hid _ := hn
  replace hp : Hid _ := hp
  replace hy : Hid _ := hy
  have c0' := cellB hbU v0
  have c1' := cellB hbU v1
  have c2' := cellB hbU v2
  have c3' := cellB hbU v3
  clear hy1 hA v0 v1 v2 v3 hyV
  go_enter Tryz.func41, Tryz.ntmps41
  go_wp2
  first | (go_region_held3 (fun u => u.cell? ⟨w.heap.size, 0, none⟩ = some (.map (some m.a)) ∧ u.cell? ⟨w.heap.size, 1, none⟩ = some (.map (some m.b)) ∧ u.cell? ⟨w.heap.size, 2, none⟩ = some (.map (some m.c)) ∧ u.cell? ⟨w.heap.size, 3, none⟩ = some (.map (some m.d)) ∧ u.cell? ⟨w.heap.size, 4, none⟩ = some (.map (some m.e)) ∧ u.cell? ⟨w.heap.size + 1, 0, none⟩ = some (.int .i64 2) ∧ u.cell? ⟨w.heap.size + 1, 1, none⟩ = some (sk t) ∧ u.cell? ⟨w.heap.size + 1, 2, none⟩ = some (.int .i64 n) ∧ u.cell? ⟨w.heap.size + 1, 3, none⟩ = some (.slice (some ⟨g, off, none⟩) ks.length cap) ∧ u.cell? ⟨g, off + p * 4, none⟩ = some (.int .i64 y.k) ∧ u.cell? ⟨g, off + p * 4 + 1, none⟩ = some (sk y.t) ∧ u.cell? ⟨g, off + p * 4 + 2, none⟩ = some (.int .i64 y.n) ∧ u.cell? ⟨g, off + p * 4 + 3, none⟩ = some (.slice b' y.kids.length cap')) (go_keep) (first | (go_at_call 74; refine hNm.mono ?_; rintro e w1 ⟨rfl, hb1⟩; replace hB := (hB.on (Below.refl _ _).drew).on hb1; have hB0 := hB; obtain ⟨⟨g1, g2, hbU⟩, ⟨c0, c1, c2, c3, f0, f1, f2, f3⟩, ⟨d0, d1, d2, d3, d4⟩⟩ := hB0; have hbd := ext_trans (Below.refl _ _).drew hb1; have c0' := cellB hbd c0'; have c1' := cellB hbd c1'; have c2' := cellB hbd c2'; have c3' := cellB hbd c3') | (go_at_call 40; refine (hA1 _ hbU).mono ?_; rintro e w2 ⟨rfl, hb2⟩; replace hB := hB.on hb2; have hB0 := hB; obtain ⟨⟨g1, g2, hbU⟩, ⟨c0, c1, c2, c3, f0, f1, f2, f3⟩, ⟨d0, d1, d2, d3, d4⟩⟩ := hB0; have c0' := cellB hb2 c0'; have c1' := cellB hb2 c1'; have c2' := cellB hb2 c2'; have c3' := cellB hb2 c3') | (go_at_call 76; refine (hBl _ hbU).mono ?_; rintro e w3 ⟨⟨z, rfl, hz⟩, hb3⟩; replace hB := hB.on hb3; have hB0 := hB; obtain ⟨⟨g1, g2, hbU⟩, ⟨c0, c1, c2, c3, f0, f1, f2, f3⟩, ⟨d0, d1, d2, d3, d4⟩⟩ := hB0; have c0' := cellB hb3 c0'; have c1' := cellB hb3 c1'; have c2' := cellB hb3 c2'; have c3' := cellB hb3 c3'))) | fail
  all_goals
    go_wp2
    go_ret
    refine ⟨⟨z, rfl, hz.trans ⟨fun h => isk2.2 ⟨hq.out, hl, by rw [hp.out, Nat.add_sub_cancel]; exact hn.out, fun x hx => ?_⟩, fun h => (isk2.1 h).2.2.2 y (by rw [hp.out, Nat.add_sub_cancel]; exact hy.out)⟩⟩, hbU⟩
    rw [hp.out, Nat.add_sub_cancel, hy.out] at hx
    cases hx
    exact h
theorem ask_f_of (x : Nd) (h : isK 2 x) : Ask 41 (isK 2) x := by
  obtain ⟨k, t, n, ks⟩ := x
  have hk : k = 2 := h.2
  subst hk
  have h' := isk2.1 h
  exact fu2_d t n ks h'.1 h'.2.1 h'.2.2.1
theorem ask_u_of (x : Nd) (h : isK 1 x) : Ask 19 (isK 1) x := by
  obtain ⟨k, t, n, ks⟩ := x
  have hk : k = 1 := h.2
  subst hk
  exact un1 t n ks (fun y hy => ask_f_of y ((isk1.1 h).2 y hy))
end Go.Proofs.YtbdkiimggggndaaGreatDoor
