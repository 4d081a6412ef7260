/- The program's printer: is it an expression?. The program's writer: how closely a node binds; within; a row. The program's writer: a row. The program's writer: signs ahead, what stands behind, an operation. -/
import Derived.Test.YtbdkiimggggndaaGreatDoorJ18
import Derived.Test.YtbdkiimggggndaaGreatDoorJ17
import Derived.Test.YtbdkiimggggndaaGreatDoorJ14
import Derived.Lib.SmallJoins
namespace Go.Proofs.YtbdkiimggggndaaGreatDoor
open Go.RowKit
open Go

/-- The boxes at hand. -/
structure FB (w : World) (m : Wm) (n : Nd) (b : Option Addr) (cap : Nat) (U : World) : Prop where
  f : FN w m n b cap U
  c : In4 U (w.heap.size + 1) (.int .i64 n.k) (sk n.t) (.int .i64 n.n) (.slice b n.kids.length cap)
  d : In5 U w.heap.size m
theorem FN.b {w : World} {m : Wm} {n : Nd} {b : Option Addr} {cap : Nat} {U : World} (h : FN w m n b cap U) : FB w m n b cap U := ⟨h, in4 h.g2, in5 h.g1⟩
theorem FB.on {w : World} {m : Wm} {n : Nd} {b : Option Addr} {cap : Nat} {U V : World} (h : FB w m n b cap U) (hb : Below U.heap.size U V) : FB w m n b cap V := (h.f.on hb).b

set_option maxRecDepth 20000 in
set_option maxHeartbeats 1000000 in
theorem ex_13 (t : List UInt8) (n : Int) (ks : List Nd) : Ask 121 isX ⟨13, t, n, ks⟩ := by
  intro m S b cap w hW hok hN
  have hB := (fn_new w m ⟨13, t, n, ks⟩ b cap).b
  rw [okN] at hok
  obtain ⟨hok1, hok2, hok3, hok5, hok4⟩ := hok
  rw [okN_go] at hok4
  obtain ⟨U, hU⟩ : ∃ U, (w.alloc m.x).alloc (nbx ⟨13, t, n, ks⟩ b cap) = U := ⟨_, rfl⟩
  rw [hU] at hB
  replace hU : (w.alloc (.cells #[.map (some m.a), .map (some m.b), .map (some m.c), .map (some m.d), .map (some m.e)] 50)).alloc (.cells #[.int .i64 13, sk t, .int .i64 n, .slice b ks.length cap] 24) = U := hU
  have hB0 := hB
  obtain ⟨⟨g1, g2, hbU⟩, ⟨c0, c1, c2, c3, f0, f1, f2, f3⟩, ⟨d0, d1, d2, d3, d4⟩⟩ := hB0
  by_cases h1 : 0 ≤ n
  · by_cases h2 : t = []
    · subst h2
      go_enter Tryz.func121, Tryz.ntmps121
      go_wp2_with (go_at_call 120; refine (each_0 ks b cap _).mono ?_; rintro e w1 ⟨⟨y, rfl, hy⟩, hb1⟩)
      go_ret
      exact ⟨⟨y, rfl, hy.trans ⟨fun h => (isx13 hok3).2 ⟨h1, rfl, h⟩, fun h => ((isx13 hok3).1 h).2.2⟩⟩, ext_trans hbU hb1⟩
    · have h2' : (t == []) = false := by simpa using h2
      replace h2 : Hid _ := h2
      go_enter Tryz.func121, Tryz.ntmps121
      go_wp2
      go_ret
      exact ⟨⟨false, rfl, ⟨fun h => (by cases h), fun h => absurd ((isx13 hok3).1 h).2.1 h2.out⟩⟩, hbU⟩
  · go_enter Tryz.func121, Tryz.ntmps121
    go_wp2
    go_ret
    exact ⟨⟨false, rfl, ⟨fun h => (by cases h), fun h => absurd ((isx13 hok3).1 h).1 (by omega)⟩⟩, hbU⟩
set_option maxRecDepth 20000 in
set_option maxHeartbeats 1000000 in
theorem ex_18 (t : List UInt8) (n : Int) (ks : List Nd) : Ask 121 isX ⟨18, t, n, ks⟩ := by
  intro m S b cap w hW hok hN
  have hB := (fn_new w m ⟨18, t, n, ks⟩ b cap).b
  rw [okN] at hok
  obtain ⟨hok1, hok2, hok3, hok5, hok4⟩ := hok
  rw [okN_go] at hok4
  obtain ⟨U, hU⟩ : ∃ U, (w.alloc m.x).alloc (nbx ⟨18, t, n, ks⟩ b cap) = U := ⟨_, rfl⟩
  rw [hU] at hB
  replace hU : (w.alloc (.cells #[.map (some m.a), .map (some m.b), .map (some m.c), .map (some m.d), .map (some m.e)] 50)).alloc (.cells #[.int .i64 18, sk t, .int .i64 n, .slice b ks.length cap] 24) = U := hU
  have hB0 := hB
  obtain ⟨⟨g1, g2, hbU⟩, ⟨c0, c1, c2, c3, f0, f1, f2, f3⟩, ⟨d0, d1, d2, d3, d4⟩⟩ := hB0
  obtain ⟨⟨lim, hWd⟩, hE⟩ := hW.on hbU
  have hNm := named_any ⟨18, t, n, ks⟩ b cap m.a m.b m.c m.d m.e lim U hE hWd
  dsimp only at hNm
  cases hy1 : (n == 0 && nameB t) with
  | true =>
    rw [hy1] at hNm
    have hq : n = 0 ∧ nameB t = true := by simpa using hy1
    replace hq : Hid _ := hq
    clear hy1
    go_enter Tryz.func121, Tryz.ntmps121
    go_wp2_with (first | (go_at_call 74; refine hNm.mono ?_; rintro e w1 ⟨rfl, hb1⟩; replace hB := hB.on hb1; have hB0 := hB; obtain ⟨⟨g1, g2, hbU⟩, ⟨c0, c1, c2, c3, f0, f1, f2, f3⟩, ⟨d0, d1, d2, d3, d4⟩⟩ := hB0) | (go_at_call 120; refine (each_0 ks b cap _).mono ?_; rintro e w2 ⟨⟨y, rfl, hy⟩, hb2⟩))
    go_ret
    exact ⟨⟨y, rfl, hy.trans ⟨fun h => isx18.2 ⟨hq.out, h⟩, fun h => (isx18.1 h).2⟩⟩, ext_trans hbU hb2⟩
  | false =>
    rw [hy1] at hNm
    have hq : ¬ (n = 0 ∧ nameB t = true) := by simpa using hy1
    replace hq : Hid _ := hq
    clear hy1
    go_enter Tryz.func121, Tryz.ntmps121
    go_wp2_with (go_at_call 74; refine hNm.mono ?_; rintro e w1 ⟨rfl, hb1⟩)
    go_ret
    exact ⟨⟨false, rfl, ⟨fun h => (by cases h), fun h => absurd (isx18.1 h).1 hq.out⟩⟩, ext_trans hbU hb1⟩
set_option maxRecDepth 20000 in
set_option maxHeartbeats 1000000 in
theorem ex_15 (t : List UInt8) (n : Int) (ks : List Nd) : Ask 121 isX ⟨15, t, n, ks⟩ := by
  intro m S b cap w hW hok hN
  have hB := (fn_new w m ⟨15, t, n, ks⟩ b cap).b
  rw [okN] at hok
  obtain ⟨hok1, hok2, hok3, hok5, hok4⟩ := hok
  rw [okN_go] at hok4
  obtain ⟨U, hU⟩ : ∃ U, (w.alloc m.x).alloc (nbx ⟨15, t, n, ks⟩ b cap) = U := ⟨_, rfl⟩
  rw [hU] at hB
  replace hU : (w.alloc (.cells #[.map (some m.a), .map (some m.b), .map (some m.c), .map (some m.d), .map (some m.e)] 50)).alloc (.cells #[.int .i64 15, sk t, .int .i64 n, .slice b ks.length cap] 24) = U := hU
  have hB0 := hB
  obtain ⟨⟨g1, g2, hbU⟩, ⟨c0, c1, c2, c3, f0, f1, f2, f3⟩, ⟨d0, d1, d2, d3, d4⟩⟩ := hB0
  have hBr := bare_any ⟨15, t, n, ks⟩ b cap U
  dsimp only at hBr
  cases hy1 : (t == [] && n == 0) with
  | true =>
    rw [hy1] at hBr
    have hq : t = [] ∧ n = 0 := by simpa using hy1
    replace hq : Hid _ := hq
    clear hy1
    go_enter Tryz.func121, Tryz.ntmps121
    go_wp2_with (first | (go_at_call 39; refine hBr.mono ?_; rintro e w1 ⟨rfl, hb1⟩; replace hB := hB.on hb1; have hB0 := hB; obtain ⟨⟨g1, g2, hbU⟩, ⟨c0, c1, c2, c3, f0, f1, f2, f3⟩, ⟨d0, d1, d2, d3, d4⟩⟩ := hB0) | (go_at_call 120; refine (each_0 ks b cap _).mono ?_; rintro e w2 ⟨⟨y, rfl, hy⟩, hb2⟩))
    go_ret
    exact ⟨⟨y, rfl, hy.trans ⟨fun h => (isx15 (k := 15) (by decide)).2 ⟨hq.out, h⟩, fun h => ((isx15 (k := 15) (by decide)).1 h).2⟩⟩, ext_trans hbU hb2⟩
  | false =>
    rw [hy1] at hBr
    have hq : ¬ (t = [] ∧ n = 0) := by simpa using hy1
    replace hq : Hid _ := hq
    clear hy1
    go_enter Tryz.func121, Tryz.ntmps121
    go_wp2_with (go_at_call 39; refine hBr.mono ?_; rintro e w1 ⟨rfl, hb1⟩)
    go_ret
    exact ⟨⟨false, rfl, ⟨fun h => (by cases h), fun h => absurd ((isx15 (k := 15) (by decide)).1 h).1 hq.out⟩⟩, ext_trans hbU hb1⟩
set_option maxRecDepth 20000 in
set_option maxHeartbeats 1000000 in
theorem ex_16 (t : List UInt8) (n : Int) (ks : List Nd) : Ask 121 isX ⟨16, t, n, ks⟩ := by
  intro m S b cap w hW hok hN
  have hB := (fn_new w m ⟨16, t, n, ks⟩ b cap).b
  rw [okN] at hok
  obtain ⟨hok1, hok2, hok3, hok5, hok4⟩ := hok
  rw [okN_go] at hok4
  obtain ⟨U, hU⟩ : ∃ U, (w.alloc m.x).alloc (nbx ⟨16, t, n, ks⟩ b cap) = U := ⟨_, rfl⟩
  rw [hU] at hB
  replace hU : (w.alloc (.cells #[.map (some m.a), .map (some m.b), .map (some m.c), .map (some m.d), .map (some m.e)] 50)).alloc (.cells #[.int .i64 16, sk t, .int .i64 n, .slice b ks.length cap] 24) = U := hU
  have hB0 := hB
  obtain ⟨⟨g1, g2, hbU⟩, ⟨c0, c1, c2, c3, f0, f1, f2, f3⟩, ⟨d0, d1, d2, d3, d4⟩⟩ := hB0
  have hBr := bare_any ⟨16, t, n, ks⟩ b cap U
  dsimp only at hBr
  cases hy1 : (t == [] && n == 0) with
  | true =>
    rw [hy1] at hBr
    have hq : t = [] ∧ n = 0 := by simpa using hy1
    replace hq : Hid _ := hq
    clear hy1
    go_enter Tryz.func121, Tryz.ntmps121
    go_wp2_with (first | (go_at_call 39; refine hBr.mono ?_; rintro e w1 ⟨rfl, hb1⟩; replace hB := hB.on hb1; have hB0 := hB; obtain ⟨⟨g1, g2, hbU⟩, ⟨c0, c1, c2, c3, f0, f1, f2, f3⟩, ⟨d0, d1, d2, d3, d4⟩⟩ := hB0) | (go_at_call 120; refine (each_0 ks b cap _).mono ?_; rintro e w2 ⟨⟨y, rfl, hy⟩, hb2⟩))
    go_ret
    exact ⟨⟨y, rfl, hy.trans ⟨fun h => (isx15 (k := 16) (by decide)).2 ⟨hq.out, h⟩, fun h => ((isx15 (k := 16) (by decide)).1 h).2⟩⟩, ext_trans hbU hb2⟩
  | false =>
    rw [hy1] at hBr
    have hq : ¬ (t = [] ∧ n = 0) := by simpa using hy1
    replace hq : Hid _ := hq
    clear hy1
    go_enter Tryz.func121, Tryz.ntmps121
    go_wp2_with (go_at_call 39; refine hBr.mono ?_; rintro e w1 ⟨rfl, hb1⟩)
    go_ret
    exact ⟨⟨false, rfl, ⟨fun h => (by cases h), fun h => absurd ((isx15 (k := 16) (by decide)).1 h).1 hq.out⟩⟩, ext_trans hbU hb1⟩
set_option maxRecDepth 20000 in
set_option maxHeartbeats 1000000 in
theorem ex_17 (t : List UInt8) (n : Int) (ks : List Nd) : Ask 121 isX ⟨17, t, n, ks⟩ := by
  intro m S b cap w hW hok hN
  have hB := (fn_new w m ⟨17, t, n, ks⟩ b cap).b
  rw [okN] at hok
  obtain ⟨hok1, hok2, hok3, hok5, hok4⟩ := hok
  rw [okN_go] at hok4
  obtain ⟨U, hU⟩ : ∃ U, (w.alloc m.x).alloc (nbx ⟨17, t, n, ks⟩ b cap) = U := ⟨_, rfl⟩
  rw [hU] at hB
  replace hU : (w.alloc (.cells #[.map (some m.a), .map (some m.b), .map (some m.c), .map (some m.d), .map (some m.e)] 50)).alloc (.cells #[.int .i64 17, sk t, .int .i64 n, .slice b ks.length cap] 24) = U := hU
  have hB0 := hB
  obtain ⟨⟨g1, g2, hbU⟩, ⟨c0, c1, c2, c3, f0, f1, f2, f3⟩, ⟨d0, d1, d2, d3, d4⟩⟩ := hB0
  have hBr := bare_any ⟨17, t, n, ks⟩ b cap U
  dsimp only at hBr
  cases hy1 : (t == [] && n == 0) with
  | true =>
    rw [hy1] at hBr
    have hq : t = [] ∧ n = 0 := by simpa using hy1
    replace hq : Hid _ := hq
    clear hy1
    go_enter Tryz.func121, Tryz.ntmps121
    go_wp2_with (first | (go_at_call 39; refine hBr.mono ?_; rintro e w1 ⟨rfl, hb1⟩; replace hB := hB.on hb1; have hB0 := hB; obtain ⟨⟨g1, g2, hbU⟩, ⟨c0, c1, c2, c3, f0, f1, f2, f3⟩, ⟨d0, d1, d2, d3, d4⟩⟩ := hB0) | (go_at_call 120; refine (each_0 ks b cap _).mono ?_; rintro e w2 ⟨⟨y, rfl, hy⟩, hb2⟩))
    go_ret
    exact ⟨⟨y, rfl, hy.trans ⟨fun h => (isx15 (k := 17) (by decide)).2 ⟨hq.out, h⟩, fun h => ((isx15 (k := 17) (by decide)).1 h).2⟩⟩, ext_trans hbU hb2⟩
  | false =>
    rw [hy1] at hBr
    have hq : ¬ (t = [] ∧ n = 0) := by simpa using hy1
    replace hq : Hid _ := hq
    clear hy1
    go_enter Tryz.func121, Tryz.ntmps121
    go_wp2_with (go_at_call 39; refine hBr.mono ?_; rintro e w1 ⟨rfl, hb1⟩)
    go_ret
    exact ⟨⟨false, rfl, ⟨fun h => (by cases h), fun h => absurd ((isx15 (k := 17) (by decide)).1 h).1 hq.out⟩⟩, ext_trans hbU hb1⟩
set_option maxRecDepth 20000 in
set_option maxHeartbeats 1000000 in
theorem ex_19 (t : List UInt8) (n : Int) (ks : List Nd) : Ask 121 isX ⟨19, t, n, ks⟩ := by
  intro m S b cap w hW hok hN
  have hB := (fn_new w m ⟨19, t, n, ks⟩ b cap).b
  rw [okN] at hok
  obtain ⟨hok1, hok2, hok3, hok5, hok4⟩ := hok
  rw [okN_go] at hok4
  obtain ⟨U, hU⟩ : ∃ U, (w.alloc m.x).alloc (nbx ⟨19, t, n, ks⟩ b cap) = U := ⟨_, rfl⟩
  rw [hU] at hB
  replace hU : (w.alloc (.cells #[.map (some m.a), .map (some m.b), .map (some m.c), .map (some m.d), .map (some m.e)] 50)).alloc (.cells #[.int .i64 19, sk t, .int .i64 n, .slice b ks.length cap] 24) = U := hU
  have hB0 := hB
  obtain ⟨⟨g1, g2, hbU⟩, ⟨c0, c1, c2, c3, f0, f1, f2, f3⟩, ⟨d0, d1, d2, d3, d4⟩⟩ := hB0
  have hBr := bare_any ⟨19, t, n, ks⟩ b cap U
  dsimp only at hBr
  cases hy1 : (t == [] && n == 0) with
  | true =>
    rw [hy1] at hBr
    have hq : t = [] ∧ n = 0 := by simpa using hy1
    replace hq : Hid _ := hq
    clear hy1
    go_enter Tryz.func121, Tryz.ntmps121
    go_wp2_with (first | (go_at_call 39; refine hBr.mono ?_; rintro e w1 ⟨rfl, hb1⟩; replace hB := hB.on hb1; have hB0 := hB; obtain ⟨⟨g1, g2, hbU⟩, ⟨c0, c1, c2, c3, f0, f1, f2, f3⟩, ⟨d0, d1, d2, d3, d4⟩⟩ := hB0) | (go_at_call 120; refine (each_0 ks b cap _).mono ?_; rintro e w2 ⟨⟨y, rfl, hy⟩, hb2⟩))
    go_ret
    exact ⟨⟨y, rfl, hy.trans ⟨fun h => (isx15 (k := 19) (by decide)).2 ⟨hq.out, h⟩, fun h => ((isx15 (k := 19) (by decide)).1 h).2⟩⟩, ext_trans hbU hb2⟩
  | false =>
    rw [hy1] at hBr
    have hq : ¬ (t = [] ∧ n = 0) := by simpa using hy1
    replace hq : Hid _ := hq
    clear hy1
    go_enter Tryz.func121, Tryz.ntmps121
    go_wp2_with (go_at_call 39; refine hBr.mono ?_; rintro e w1 ⟨rfl, hb1⟩)
    go_ret
    exact ⟨⟨false, rfl, ⟨fun h => (by cases h), fun h => absurd ((isx15 (k := 19) (by decide)).1 h).1 hq.out⟩⟩, ext_trans hbU hb1⟩
set_option maxRecDepth 20000 in
set_option maxHeartbeats 1000000 in
theorem ex_23 (t : List UInt8) (n : Int) (ks : List Nd) (ih : ∀ y ∈ ks, Ask 121 isX y) : Ask 121 isX ⟨23, t, n, ks⟩ := by
  intro m S b cap w hW hok hN
  have hB := (fn_new w m ⟨23, t, n, ks⟩ b cap).b
  rw [okN] at hok
  obtain ⟨hok1, hok2, hok3, hok5, hok4⟩ := hok
  rw [okN_go] at hok4
  obtain ⟨U, hU⟩ : ∃ U, (w.alloc m.x).alloc (nbx ⟨23, t, n, ks⟩ b cap) = U := ⟨_, rfl⟩
  rw [hU] at hB
  replace hU : (w.alloc (.cells #[.map (some m.a), .map (some m.b), .map (some m.c), .map (some m.d), .map (some m.e)] 50)).alloc (.cells #[.int .i64 23, sk t, .int .i64 n, .slice b ks.length cap] 24) = U := hU
  have hB0 := hB
  obtain ⟨⟨g1, g2, hbU⟩, ⟨c0, c1, c2, c3, f0, f1, f2, f3⟩, ⟨d0, d1, d2, d3, d4⟩⟩ := hB0
  have hBr := bare_any ⟨23, t, n, ks⟩ b cap U
  dsimp only at hBr
  cases hy1 : (t == [] && n == 0) with
  | true =>
    rw [hy1] at hBr
    have hq : t = [] ∧ n = 0 := by simpa using hy1
    replace hq : Hid _ := hq
    clear hy1
    go_enter Tryz.func121, Tryz.ntmps121
    go_wp2_with (first | (go_at_call 39; refine hBr.mono ?_; rintro e w1 ⟨rfl, hb1⟩; replace hB := hB.on hb1; have hB0 := hB; obtain ⟨⟨g1, g2, hbU⟩, ⟨c0, c1, c2, c3, f0, f1, f2, f3⟩, ⟨d0, d1, d2, d3, d4⟩⟩ := hB0) | (go_at_call 120; refine (each_121 isX ks b cap m S _ _ (hW.on (ext_alloc hbU (.cells #[.func (.func 121) #[m.v] #[]] 34))) (alloc_new _ (.cells #[.func (.func 121) #[m.v] #[]] 34)) (KA.of (hN.below (ext_alloc hbU (.cells #[.func (.func 121) #[m.v] #[]] 34)))) hok4 (fun y hy => ih y (List.mem_of_getElem? hy))).mono ?_; rintro e w2 ⟨⟨y, rfl, hy⟩, hb2⟩))
    go_ret
    exact ⟨⟨y, rfl, hy.trans ⟨fun h => (isx23 (k := 23) (by decide)).2 ⟨hq.out, h⟩, fun h => ((isx23 (k := 23) (by decide)).1 h).2⟩⟩, ext_trans (ext_alloc hbU _) hb2⟩
  | false =>
    rw [hy1] at hBr
    have hq : ¬ (t = [] ∧ n = 0) := by simpa using hy1
    replace hq : Hid _ := hq
    clear hy1
    go_enter Tryz.func121, Tryz.ntmps121
    go_wp2_with (go_at_call 39; refine hBr.mono ?_; rintro e w1 ⟨rfl, hb1⟩)
    go_ret
    exact ⟨⟨false, rfl, ⟨fun h => (by cases h), fun h => absurd ((isx23 (k := 23) (by decide)).1 h).1 hq.out⟩⟩, ext_trans hbU hb1⟩
set_option maxRecDepth 20000 in
set_option maxHeartbeats 1000000 in
theorem ex_24 (t : List UInt8) (n : Int) (ks : List Nd) (ih : ∀ y ∈ ks, Ask 121 isX y) : Ask 121 isX ⟨24, t, n, ks⟩ := by
  intro m S b cap w hW hok hN
  have hB := (fn_new w m ⟨24, t, n, ks⟩ b cap).b
  rw [okN] at hok
  obtain ⟨hok1, hok2, hok3, hok5, hok4⟩ := hok
  rw [okN_go] at hok4
  obtain ⟨U, hU⟩ : ∃ U, (w.alloc m.x).alloc (nbx ⟨24, t, n, ks⟩ b cap) = U := ⟨_, rfl⟩
  rw [hU] at hB
  replace hU : (w.alloc (.cells #[.map (some m.a), .map (some m.b), .map (some m.c), .map (some m.d), .map (some m.e)] 50)).alloc (.cells #[.int .i64 24, sk t, .int .i64 n, .slice b ks.length cap] 24) = U := hU
  have hB0 := hB
  obtain ⟨⟨g1, g2, hbU⟩, ⟨c0, c1, c2, c3, f0, f1, f2, f3⟩, ⟨d0, d1, d2, d3, d4⟩⟩ := hB0
  have hBr := bare_any ⟨24, t, n, ks⟩ b cap U
  dsimp only at hBr
  cases hy1 : (t == [] && n == 0) with
  | true =>
    rw [hy1] at hBr
    have hq : t = [] ∧ n = 0 := by simpa using hy1
    replace hq : Hid _ := hq
    clear hy1
    go_enter Tryz.func121, Tryz.ntmps121
    go_wp2_with (first | (go_at_call 39; refine hBr.mono ?_; rintro e w1 ⟨rfl, hb1⟩; replace hB := hB.on hb1; have hB0 := hB; obtain ⟨⟨g1, g2, hbU⟩, ⟨c0, c1, c2, c3, f0, f1, f2, f3⟩, ⟨d0, d1, d2, d3, d4⟩⟩ := hB0) | (go_at_call 120; refine (each_121 isX ks b cap m S _ _ (hW.on (ext_alloc hbU (.cells #[.func (.func 121) #[m.v] #[]] 34))) (alloc_new _ (.cells #[.func (.func 121) #[m.v] #[]] 34)) (KA.of (hN.below (ext_alloc hbU (.cells #[.func (.func 121) #[m.v] #[]] 34)))) hok4 (fun y hy => ih y (List.mem_of_getElem? hy))).mono ?_; rintro e w2 ⟨⟨y, rfl, hy⟩, hb2⟩))
    go_ret
    exact ⟨⟨y, rfl, hy.trans ⟨fun h => (isx23 (k := 24) (by decide)).2 ⟨hq.out, h⟩, fun h => ((isx23 (k := 24) (by decide)).1 h).2⟩⟩, ext_trans (ext_alloc hbU _) hb2⟩
  | false =>
    rw [hy1] at hBr
    have hq : ¬ (t = [] ∧ n = 0) := by simpa using hy1
    replace hq : Hid _ := hq
    clear hy1
    go_enter Tryz.func121, Tryz.ntmps121
    go_wp2_with (go_at_call 39; refine hBr.mono ?_; rintro e w1 ⟨rfl, hb1⟩)
    go_ret
    exact ⟨⟨false, rfl, ⟨fun h => (by cases h), fun h => absurd ((isx23 (k := 24) (by decide)).1 h).1 hq.out⟩⟩, ext_trans hbU hb1⟩
set_option maxRecDepth 20000 in
set_option maxHeartbeats 1000000 in
theorem ex_25 (t : List UInt8) (n : Int) (ks : List Nd) (ih : ∀ y ∈ ks, Ask 121 isX y) : Ask 121 isX ⟨25, t, n, ks⟩ := by
  intro m S b cap w hW hok hN
  have hB := (fn_new w m ⟨25, t, n, ks⟩ b cap).b
  rw [okN] at hok
  obtain ⟨hok1, hok2, hok3, hok5, hok4⟩ := hok
  rw [okN_go] at hok4
  obtain ⟨U, hU⟩ : ∃ U, (w.alloc m.x).alloc (nbx ⟨25, t, n, ks⟩ b cap) = U := ⟨_, rfl⟩
  rw [hU] at hB
  replace hU : (w.alloc (.cells #[.map (some m.a), .map (some m.b), .map (some m.c), .map (some m.d), .map (some m.e)] 50)).alloc (.cells #[.int .i64 25, sk t, .int .i64 n, .slice b ks.length cap] 24) = U := hU
  have hB0 := hB
  obtain ⟨⟨g1, g2, hbU⟩, ⟨c0, c1, c2, c3, f0, f1, f2, f3⟩, ⟨d0, d1, d2, d3, d4⟩⟩ := hB0
  have hBr := bare_any ⟨25, t, n, ks⟩ b cap U
  dsimp only at hBr
  cases hy1 : (t == [] && n == 0) with
  | true =>
    rw [hy1] at hBr
    have hq : t = [] ∧ n = 0 := by simpa using hy1
    replace hq : Hid _ := hq
    clear hy1
    go_enter Tryz.func121, Tryz.ntmps121
    go_wp2_with (first | (go_at_call 39; refine hBr.mono ?_; rintro e w1 ⟨rfl, hb1⟩; replace hB := hB.on hb1; have hB0 := hB; obtain ⟨⟨g1, g2, hbU⟩, ⟨c0, c1, c2, c3, f0, f1, f2, f3⟩, ⟨d0, d1, d2, d3, d4⟩⟩ := hB0) | (go_at_call 120; refine (each_121 isX ks b cap m S _ _ (hW.on (ext_alloc hbU (.cells #[.func (.func 121) #[m.v] #[]] 34))) (alloc_new _ (.cells #[.func (.func 121) #[m.v] #[]] 34)) (KA.of (hN.below (ext_alloc hbU (.cells #[.func (.func 121) #[m.v] #[]] 34)))) hok4 (fun y hy => ih y (List.mem_of_getElem? hy))).mono ?_; rintro e w2 ⟨⟨y, rfl, hy⟩, hb2⟩))
    go_ret
    exact ⟨⟨y, rfl, hy.trans ⟨fun h => (isx23 (k := 25) (by decide)).2 ⟨hq.out, h⟩, fun h => ((isx23 (k := 25) (by decide)).1 h).2⟩⟩, ext_trans (ext_alloc hbU _) hb2⟩
  | false =>
    rw [hy1] at hBr
    have hq : ¬ (t = [] ∧ n = 0) := by simpa using hy1
    replace hq : Hid _ := hq
    clear hy1
    go_enter Tryz.func121, Tryz.ntmps121
    go_wp2_with (go_at_call 39; refine hBr.mono ?_; rintro e w1 ⟨rfl, hb1⟩)
    go_ret
    exact ⟨⟨false, rfl, ⟨fun h => (by cases h), fun h => absurd ((isx23 (k := 25) (by decide)).1 h).1 hq.out⟩⟩, ext_trans hbU hb1⟩
set_option maxRecDepth 20000 in
set_option maxHeartbeats 1000000 in
theorem ex_20 (t : List UInt8) (n : Int) (ks : List Nd) (ih : ∀ y ∈ ks, Ask 121 isX y) : Ask 121 isX ⟨20, t, n, ks⟩ := by
  intro m S b cap w hW hok hN
  have hB := (fn_new w m ⟨20, t, n, ks⟩ b cap).b
  rw [okN] at hok
  obtain ⟨hok1, hok2, hok3, hok5, hok4⟩ := hok
  rw [okN_go] at hok4
  obtain ⟨U, hU⟩ : ∃ U, (w.alloc m.x).alloc (nbx ⟨20, t, n, ks⟩ b cap) = U := ⟨_, rfl⟩
  rw [hU] at hB
  replace hU : (w.alloc (.cells #[.map (some m.a), .map (some m.b), .map (some m.c), .map (some m.d), .map (some m.e)] 50)).alloc (.cells #[.int .i64 20, sk t, .int .i64 n, .slice b ks.length cap] 24) = U := hU
  have hB0 := hB
  obtain ⟨⟨g1, g2, hbU⟩, ⟨c0, c1, c2, c3, f0, f1, f2, f3⟩, ⟨d0, d1, d2, d3, d4⟩⟩ := hB0
  have hBr := bare_any ⟨20, t, n, ks⟩ b cap U
  dsimp only at hBr
  cases hy1 : (t == [] && n == 0) with
  | true =>
    rw [hy1] at hBr
    have hq : t = [] ∧ n = 0 := by simpa using hy1
    replace hq : Hid _ := hq
    clear hy1
    go_enter Tryz.func121, Tryz.ntmps121
    go_wp2_with (first | (go_at_call 39; refine hBr.mono ?_; rintro e w1 ⟨rfl, hb1⟩; replace hB := hB.on hb1; have hB0 := hB; obtain ⟨⟨g1, g2, hbU⟩, ⟨c0, c1, c2, c3, f0, f1, f2, f3⟩, ⟨d0, d1, d2, d3, d4⟩⟩ := hB0) | (go_at_call 120; refine (each_121_121 isX isX ks b cap m S _ _ (hW.on (ext_alloc hbU (.cells #[.func (.func 121) #[m.v] #[], .func (.func 121) #[m.v] #[]] 34))) (alloc_new _ (.cells #[.func (.func 121) #[m.v] #[], .func (.func 121) #[m.v] #[]] 34)) (KA.of (hN.below (ext_alloc hbU (.cells #[.func (.func 121) #[m.v] #[], .func (.func 121) #[m.v] #[]] 34)))) hok4 (fun y hy => ih y (List.mem_of_getElem? hy)) (fun y hy => ih y (List.mem_of_getElem? hy))).mono ?_; rintro e w2 ⟨⟨y, rfl, hy⟩, hb2⟩))
    go_ret
    exact ⟨⟨y, rfl, hy.trans ⟨fun h => (isx20 (k := 20) (by decide)).2 ⟨hq.out, h⟩, fun h => ((isx20 (k := 20) (by decide)).1 h).2⟩⟩, ext_trans (ext_alloc hbU _) hb2⟩
  | false =>
    rw [hy1] at hBr
    have hq : ¬ (t = [] ∧ n = 0) := by simpa using hy1
    replace hq : Hid _ := hq
    clear hy1
    go_enter Tryz.func121, Tryz.ntmps121
    go_wp2_with (go_at_call 39; refine hBr.mono ?_; rintro e w1 ⟨rfl, hb1⟩)
    go_ret
    exact ⟨⟨false, rfl, ⟨fun h => (by cases h), fun h => absurd ((isx20 (k := 20) (by decide)).1 h).1 hq.out⟩⟩, ext_trans hbU hb1⟩
set_option maxRecDepth 20000 in
set_option maxHeartbeats 1000000 in
theorem ex_26 (t : List UInt8) (n : Int) (ks : List Nd) (ih : ∀ y ∈ ks, Ask 121 isX y) : Ask 121 isX ⟨26, t, n, ks⟩ := by
  intro m S b cap w hW hok hN
  have hB := (fn_new w m ⟨26, t, n, ks⟩ b cap).b
  rw [okN] at hok
  obtain ⟨hok1, hok2, hok3, hok5, hok4⟩ := hok
  rw [okN_go] at hok4
  obtain ⟨U, hU⟩ : ∃ U, (w.alloc m.x).alloc (nbx ⟨26, t, n, ks⟩ b cap) = U := ⟨_, rfl⟩
  rw [hU] at hB
  replace hU : (w.alloc (.cells #[.map (some m.a), .map (some m.b), .map (some m.c), .map (some m.d), .map (some m.e)] 50)).alloc (.cells #[.int .i64 26, sk t, .int .i64 n, .slice b ks.length cap] 24) = U := hU
  have hB0 := hB
  obtain ⟨⟨g1, g2, hbU⟩, ⟨c0, c1, c2, c3, f0, f1, f2, f3⟩, ⟨d0, d1, d2, d3, d4⟩⟩ := hB0
  have hBr := bare_any ⟨26, t, n, ks⟩ b cap U
  dsimp only at hBr
  cases hy1 : (t == [] && n == 0) with
  | true =>
    rw [hy1] at hBr
    have hq : t = [] ∧ n = 0 := by simpa using hy1
    replace hq : Hid _ := hq
    clear hy1
    go_enter Tryz.func121, Tryz.ntmps121
    go_wp2_with (first | (go_at_call 39; refine hBr.mono ?_; rintro e w1 ⟨rfl, hb1⟩; replace hB := hB.on hb1; have hB0 := hB; obtain ⟨⟨g1, g2, hbU⟩, ⟨c0, c1, c2, c3, f0, f1, f2, f3⟩, ⟨d0, d1, d2, d3, d4⟩⟩ := hB0) | (go_at_call 120; refine (each_121_121 isX isX ks b cap m S _ _ (hW.on (ext_alloc hbU (.cells #[.func (.func 121) #[m.v] #[], .func (.func 121) #[m.v] #[]] 34))) (alloc_new _ (.cells #[.func (.func 121) #[m.v] #[], .func (.func 121) #[m.v] #[]] 34)) (KA.of (hN.below (ext_alloc hbU (.cells #[.func (.func 121) #[m.v] #[], .func (.func 121) #[m.v] #[]] 34)))) hok4 (fun y hy => ih y (List.mem_of_getElem? hy)) (fun y hy => ih y (List.mem_of_getElem? hy))).mono ?_; rintro e w2 ⟨⟨y, rfl, hy⟩, hb2⟩))
    go_ret
    exact ⟨⟨y, rfl, hy.trans ⟨fun h => (isx20 (k := 26) (by decide)).2 ⟨hq.out, h⟩, fun h => ((isx20 (k := 26) (by decide)).1 h).2⟩⟩, ext_trans (ext_alloc hbU _) hb2⟩
  | false =>
    rw [hy1] at hBr
    have hq : ¬ (t = [] ∧ n = 0) := by simpa using hy1
    replace hq : Hid _ := hq
    clear hy1
    go_enter Tryz.func121, Tryz.ntmps121
    go_wp2_with (go_at_call 39; refine hBr.mono ?_; rintro e w1 ⟨rfl, hb1⟩)
    go_ret
    exact ⟨⟨false, rfl, ⟨fun h => (by cases h), fun h => absurd ((isx20 (k := 26) (by decide)).1 h).1 hq.out⟩⟩, ext_trans hbU hb1⟩
set_option maxRecDepth 20000 in
set_option maxHeartbeats 1000000 in
theorem ex_21 (t : List UInt8) (n : Int) (ks : List Nd) (ih : ∀ y ∈ ks, Ask 121 isX y) : Ask 121 isX ⟨21, t, n, ks⟩ := by
  intro m S b cap w hW hok hN
  have hB := (fn_new w m ⟨21, t, n, ks⟩ b cap).b
  rw [okN] at hok
  obtain ⟨hok1, hok2, hok3, hok5, hok4⟩ := hok
  rw [okN_go] at hok4
  obtain ⟨U, hU⟩ : ∃ U, (w.alloc m.x).alloc (nbx ⟨21, t, n, ks⟩ b cap) = U := ⟨_, rfl⟩
  rw [hU] at hB
  replace hU : (w.alloc (.cells #[.map (some m.a), .map (some m.b), .map (some m.c), .map (some m.d), .map (some m.e)] 50)).alloc (.cells #[.int .i64 21, sk t, .int .i64 n, .slice b ks.length cap] 24) = U := hU
  have hB0 := hB
  obtain ⟨⟨g1, g2, hbU⟩, ⟨c0, c1, c2, c3, f0, f1, f2, f3⟩, ⟨d0, d1, d2, d3, d4⟩⟩ := hB0
  have hBr := bare_any ⟨21, t, n, ks⟩ b cap U
  dsimp only at hBr
  have hA := fun u (hb : Below w.heap.size w u) => all_121 isX ks b cap m S u hok5 (hW.on hb) (KA.of (hN.below hb)) hok4 ih
  cases hy1 : (t == [] && n == 0) with
  | true =>
    rw [hy1] at hBr
    have hq : t = [] ∧ n = 0 := by simpa using hy1
    replace hq : Hid _ := hq
    clear hy1
    by_cases hl : ks = []
    · subst hl
      dsimp only [List.length_nil] at hU hBr c3
      go_enter Tryz.func121, Tryz.ntmps121
      go_wp2_with (first | (go_at_call 39; refine hBr.mono ?_; rintro e w1 ⟨rfl, hb1⟩; replace hB := hB.on hb1; have hB0 := hB; obtain ⟨⟨g1, g2, hbU⟩, ⟨c0, c1, c2, c3, f0, f1, f2, f3⟩, ⟨d0, d1, d2, d3, d4⟩⟩ := hB0; dsimp only [List.length_nil] at c3))
      go_ret
      exact ⟨⟨false, rfl, ⟨fun h => (by cases h), fun h => absurd (isx21.1 h).2.1 (by simp)⟩⟩, hbU⟩
    · have hl1 : 0 < ks.length := List.length_pos_iff.2 hl
      have hl2 : (0 : Int) < (ks.length : Int) := by omega
      go_enter Tryz.func121, Tryz.ntmps121
      go_wp2_with (first | (go_at_call 39; refine hBr.mono ?_; rintro e w1 ⟨rfl, hb1⟩; replace hB := hB.on hb1; have hB0 := hB; obtain ⟨⟨g1, g2, hbU⟩, ⟨c0, c1, c2, c3, f0, f1, f2, f3⟩, ⟨d0, d1, d2, d3, d4⟩⟩ := hB0) | (go_at_call 40; refine (hA _ hbU).mono ?_; rintro e w2 ⟨⟨y, rfl, hy⟩, hb2⟩))
      go_ret
      exact ⟨⟨y, rfl, hy.trans ⟨fun h => isx21.2 ⟨hq.out, by omega, h⟩, fun h => (isx21.1 h).2.2⟩⟩, ext_trans hbU hb2⟩
  | false =>
    rw [hy1] at hBr
    have hq : ¬ (t = [] ∧ n = 0) := by simpa using hy1
    replace hq : Hid _ := hq
    clear hy1
    go_enter Tryz.func121, Tryz.ntmps121
    go_wp2_with (go_at_call 39; refine hBr.mono ?_; rintro e w1 ⟨rfl, hb1⟩)
    go_ret
    exact ⟨⟨false, rfl, ⟨fun h => (by cases h), fun h => absurd (isx21.1 h).1 hq.out⟩⟩, ext_trans hbU hb1⟩
set_option maxRecDepth 20000 in
set_option maxHeartbeats 1000000 in
theorem ex_14 (t : List UInt8) (n : Int) (ks : List Nd) : Ask 121 isX ⟨14, t, n, ks⟩ := by
  intro m S b cap w hW hok hN
  have hB := (fn_new w m ⟨14, t, n, ks⟩ b cap).b
  rw [okN] at hok
  obtain ⟨hok1, hok2, hok3, hok5, hok4⟩ := hok
  rw [okN_go] at hok4
  obtain ⟨U, hU⟩ : ∃ U, (w.alloc m.x).alloc (nbx ⟨14, t, n, ks⟩ b cap) = U := ⟨_, rfl⟩
  rw [hU] at hB
  replace hU : (w.alloc (.cells #[.map (some m.a), .map (some m.b), .map (some m.c), .map (some m.d), .map (some m.e)] 50)).alloc (.cells #[.int .i64 14, sk t, .int .i64 n, .slice b ks.length cap] 24) = U := hU
  have hB0 := hB
  obtain ⟨⟨g1, g2, hbU⟩, ⟨c0, c1, c2, c3, f0, f1, f2, f3⟩, ⟨d0, d1, d2, d3, d4⟩⟩ := hB0
  have hadd1 := fun (wx : World) => run_string_add_sum (P := Tryz.prog) (w := wx) ⟨#[34]⟩ ⟨t.toArray⟩ (by show 1 + t.toArray.size ≤ _; simp; omega)
  have hadd2 := fun (wx : World) => run_string_add_sum (P := Tryz.prog) (w := wx) (⟨#[34]⟩ ++ ⟨t.toArray⟩) ⟨#[34]⟩ (by rw [ByteArray.size_append]; show 1 + t.toArray.size + 1 ≤ _; simp; omega)
  have hT := fun u (hb : Below w.heap.size w u) => isToken_any 3 t (⟨#[34]⟩ ++ ⟨t.toArray⟩ ++ ⟨#[34]⟩) u (hW.on hb).E
  rw [show ((⟨#[34]⟩ ++ ⟨t.toArray⟩ ++ ⟨#[34]⟩ : ByteArray)).data.toList = 34 :: (t ++ [34]) by simp, quot_one] at hT
  by_cases h1 : n = 0
  · subst h1
    cases hq1 : quotB t with
    | true =>
      rw [hq1] at hT
      replace hq1 : Hid _ := hq1
      go_enter Tryz.func121, Tryz.ntmps121
      go_wp2_with (first | (go_at_call 102; refine (hT _ hbU).mono ?_; rintro e w1 ⟨rfl, hb1⟩; replace hB := hB.on hb1; have hB0 := hB; obtain ⟨⟨g1, g2, hbU⟩, ⟨c0, c1, c2, c3, f0, f1, f2, f3⟩, ⟨d0, d1, d2, d3, d4⟩⟩ := hB0) | (go_at_call 120; refine (each_0 ks b cap _).mono ?_; rintro e w2 ⟨⟨y, rfl, hy⟩, hb2⟩))
      go_ret
      exact ⟨⟨y, rfl, hy.trans ⟨fun h => isx14.2 ⟨rfl, hq1.out, h⟩, fun h => (isx14.1 h).2.2⟩⟩, ext_trans hbU hb2⟩
    | false =>
      rw [hq1] at hT
      replace hq1 : Hid _ := hq1
      go_enter Tryz.func121, Tryz.ntmps121
      go_wp2_with (first | (go_at_call 102; refine (hT _ hbU).mono ?_; rintro e w1 ⟨rfl, hb1⟩))
      go_ret
      exact ⟨⟨false, rfl, ⟨fun h => (by cases h), fun h => absurd (isx14.1 h).2.1 (by rw [hq1.out]; decide)⟩⟩, ext_trans hbU hb1⟩
  · have h1' : (n == 0) = false := by simpa using h1
    replace h1 : Hid _ := h1
    go_enter Tryz.func121, Tryz.ntmps121
    go_wp2
    go_ret
    exact ⟨⟨false, rfl, ⟨fun h => (by cases h), fun h => absurd (isx14.1 h).1 h1.out⟩⟩, hbU⟩
theorem look_sp {m : Nat} {u : World} {kv : List (Int × Value)} (hs : spellOK kv) (h : u.heap[m]? = some (mapObj ik kv)) (n : Int) (ok : Bool) : (Instr.lookup 47 (.map (some m)) (.int .i64 n) ok).run Tryz.prog u = .ok (if ok then .tuple #[((opOf n).map fun p => (.agg #[.string ⟨p.1.toArray⟩, .int .i64 ((p.2 + 1 : Nat) : Int)] : Value)).getD (.agg #[.string ⟨#[]⟩, .int .i64 0]), .bool (opOf n).isSome] else ((opOf n).map fun p => (.agg #[.string ⟨p.1.toArray⟩, .int .i64 ((p.2 + 1 : Nat) : Int)] : Value)).getD (.agg #[.string ⟨#[]⟩, .int .i64 0])) u := by
  have := run_look (P := Tryz.prog) (w := u) (T := 47) (K := 2) (E := 77) (kf := ik) (kv := kv) (B := m) Tryz.underlying47 Tryz.underlying2 key_i64 h hs.1 (z := .agg #[.string ⟨#[]⟩, .int .i64 0]) (by kernel_rfl) n ok
  rw [hs.2 n] at this
  rw [show ((opOf n).map fun p => (.agg #[.string ⟨p.1.toArray⟩, .int .i64 ((p.2 + 1 : Nat) : Int)] : Value)).isSome = (opOf n).isSome by simp] at this
  exact this
set_option maxRecDepth 20000 in
set_option maxHeartbeats 1000000 in
theorem ex_22 (t : List UInt8) (n : Int) (ks : List Nd) (ih : ∀ y ∈ ks, Ask 121 isX y) : Ask 121 isX ⟨22, t, n, ks⟩ := by
  intro m S b cap w hW hok hN
  have hB := (fn_new w m ⟨22, t, n, ks⟩ b cap).b
  rw [okN] at hok
  obtain ⟨hok1, hok2, hok3, hok5, hok4⟩ := hok
  rw [okN_go] at hok4
  obtain ⟨U, hU⟩ : ∃ U, (w.alloc m.x).alloc (nbx ⟨22, t, n, ks⟩ b cap) = U := ⟨_, rfl⟩
  rw [hU] at hB
  replace hU : (w.alloc (.cells #[.map (some m.a), .map (some m.b), .map (some m.c), .map (some m.d), .map (some m.e)] 50)).alloc (.cells #[.int .i64 22, sk t, .int .i64 n, .slice b ks.length cap] 24) = U := hU
  have hB0 := hB
  obtain ⟨⟨g1, g2, hbU⟩, ⟨c0, c1, c2, c3, f0, f1, f2, f3⟩, ⟨d0, d1, d2, d3, d4⟩⟩ := hB0
  obtain ⟨lim, hWd⟩ := (hW.on hbU).W
  obtain ⟨kv, hsp, hm3⟩ := hWd.h3
  have hL := look_sp hsp hm3 n true
  rw [if_pos rfl] at hL
  obtain ⟨sv, hsv⟩ : ∃ v, ((opOf n).map fun p => (.agg #[.string ⟨p.1.toArray⟩, .int .i64 ((p.2 + 1 : Nat) : Int)] : Value)).getD (.agg #[.string ⟨#[]⟩, .int .i64 0]) = v := ⟨_, rfl⟩
  rw [hsv] at hL
  obtain ⟨s1, i1, rfl⟩ : ∃ s i, sv = .agg #[.string s, .int .i64 i] := by
    rw [← hsv]
    cases opOf n with
    | none => exact ⟨_, _, rfl⟩
    | some p => exact ⟨_, _, rfl⟩
  have hbV := ext_alloc (Below.refl U.heap.size U) (.cells #[.string s1, .int .i64 i1] 77)
  have hBV := hB.on hbV
  have hB1 := hBV
  clear hsv hWd hm3 hsp
  cases hop : (opOf n).isSome with
  | true =>
    rw [hop] at hL
    replace hop : Hid _ := hop
    by_cases h2 : t = []
    · subst h2
      obtain ⟨⟨k1, k2, hbV2⟩, ⟨C0, C1, C2, C3, F0, F1, F2, F3⟩, ⟨D0, D1, D2, D3, D4⟩⟩ := hB1
      go_enter Tryz.func121, Tryz.ntmps121
      have gQ := alloc_new (U.alloc (.cells #[.string s1, .int .i64 i1] 77)) (.cells #[.func (.func 121) #[m.v] #[], .func (.func 121) #[m.v] #[]] 34)
      rw [World.size_alloc] at gQ
      have hbQ := ext_alloc hbV2 (.cells #[.func (.func 121) #[m.v] #[], .func (.func 121) #[m.v] #[]] 34)
      have hEa := each_121_121 isX isX ks b cap m S (U.heap.size + 1) _ (hW.on hbQ) gQ (KA.of (hN.below hbQ)) hok4 (fun y hy => ih y (List.mem_of_getElem? hy)) (fun y hy => ih y (List.mem_of_getElem? hy))
      clear gQ
      go_wp2_with (go_at_call 120; refine hEa.mono ?_; rintro e w2 ⟨⟨y, rfl, hy⟩, hb2⟩)
      go_ret
      exact ⟨⟨y, rfl, hy.trans ⟨fun h => isx22.2 ⟨hop.out, rfl, h⟩, fun h => (isx22.1 h).2.2⟩⟩, ext_trans hbQ hb2⟩
    · have h2' : (t == []) = false := by simpa using h2
      replace h2 : Hid _ := h2
      obtain ⟨⟨g1, g2, hbU⟩, ⟨c0, c1, c2, c3, f0, f1, f2, f3⟩, ⟨d0, d1, d2, d3, d4⟩⟩ := hB1
      go_enter Tryz.func121, Tryz.ntmps121
      go_wp2
      go_ret
      exact ⟨⟨false, rfl, ⟨fun h => (by cases h), fun h => absurd (isx22.1 h).2.1 h2.out⟩⟩, hbU⟩
  | false =>
    rw [hop] at hL
    replace hop : Hid _ := hop
    obtain ⟨⟨g1, g2, hbU⟩, ⟨c0, c1, c2, c3, f0, f1, f2, f3⟩, ⟨d0, d1, d2, d3, d4⟩⟩ := hB1
    go_enter Tryz.func121, Tryz.ntmps121
    go_wp2
    go_ret
    exact ⟨⟨false, rfl, ⟨fun h => (by cases h), fun h => absurd (isx22.1 h).1 (by rw [hop.out]; decide)⟩⟩, hbU⟩
set_option maxRecDepth 20000 in
set_option maxHeartbeats 1000000 in
theorem ex_no (t : List UInt8) (n : Int) (ks : List Nd) (k : Int) (hk : ¬ exprK k) : Ask 121 isX ⟨k, t, n, ks⟩ := by
  intro m S b cap w hW hok hN
  have hB := (fn_new w m ⟨k, t, n, ks⟩ b cap).b
  rw [okN] at hok
  obtain ⟨hok1, hok2, hok3, hok5, hok4⟩ := hok
  rw [okN_go] at hok4
  obtain ⟨U, hU⟩ : ∃ U, (w.alloc m.x).alloc (nbx ⟨k, t, n, ks⟩ b cap) = U := ⟨_, rfl⟩
  rw [hU] at hB
  replace hU : (w.alloc (.cells #[.map (some m.a), .map (some m.b), .map (some m.c), .map (some m.d), .map (some m.e)] 50)).alloc (.cells #[.int .i64 k, sk t, .int .i64 n, .slice b ks.length cap] 24) = U := hU
  have hB0 := hB
  obtain ⟨⟨g1, g2, hbU⟩, ⟨c0, c1, c2, c3, f0, f1, f2, f3⟩, ⟨d0, d1, d2, d3, d4⟩⟩ := hB0
  have q13 : (k == 13) = false := by simp only [exprK] at hk; simp; omega
  have q14 : (k == 14) = false := by simp only [exprK] at hk; simp; omega
  have q15 : (k == 15) = false := by simp only [exprK] at hk; simp; omega
  have q16 : (k == 16) = false := by simp only [exprK] at hk; simp; omega
  have q17 : (k == 17) = false := by simp only [exprK] at hk; simp; omega
  have q18 : (k == 18) = false := by simp only [exprK] at hk; simp; omega
  have q19 : (k == 19) = false := by simp only [exprK] at hk; simp; omega
  have q20 : (k == 20) = false := by simp only [exprK] at hk; simp; omega
  have q21 : (k == 21) = false := by simp only [exprK] at hk; simp; omega
  have q22 : (k == 22) = false := by simp only [exprK] at hk; simp; omega
  have q23 : (k == 23) = false := by simp only [exprK] at hk; simp; omega
  have q24 : (k == 24) = false := by simp only [exprK] at hk; simp; omega
  have q25 : (k == 25) = false := by simp only [exprK] at hk; simp; omega
  have q26 : (k == 26) = false := by simp only [exprK] at hk; simp; omega
  go_enter Tryz.func121, Tryz.ntmps121
  go_wp2
  go_ret
  exact ⟨⟨false, rfl, ⟨fun h => (by cases h), fun h => absurd h (isx_no hk)⟩⟩, hbU⟩
theorem ask_x (x : Nd) : Ask 121 isX x := by
  refine nd_ind (m := fun x => Ask 121 isX x) (fun k t n ks ih => ?_) x
  by_cases hk : exprK k
  · have hc : k = 13 ∨ k = 14 ∨ k = 15 ∨ k = 16 ∨ k = 17 ∨ k = 18 ∨ k = 19 ∨ k = 20 ∨ k = 21 ∨ k = 22 ∨ k = 23 ∨ k = 24 ∨ k = 25 ∨ k = 26 := by simp only [exprK] at hk; omega
    rcases hc with rfl | rfl | rfl | rfl | rfl | rfl | rfl | rfl | rfl | rfl | rfl | rfl | rfl | rfl
    · exact ex_13 t n ks
    · exact ex_14 t n ks
    · exact ex_15 t n ks
    · exact ex_16 t n ks
    · exact ex_17 t n ks
    · exact ex_18 t n ks
    · exact ex_19 t n ks
    · exact ex_20 t n ks ih
    · exact ex_21 t n ks ih
    · exact ex_22 t n ks ih
    · exact ex_23 t n ks ih
    · exact ex_24 t n ks ih
    · exact ex_25 t n ks ih
    · exact ex_26 t n ks ih
  · exact ex_no t n ks k hk
end Go.Proofs.YtbdkiimggggndaaGreatDoor
namespace Go.Proofs.YtbdkiimggggndaaGreatDoor
open Go.RowKit
open Go

theorem WF.on {m : Wm} {w u : World} (h : WF m w) (hb : Below w.heap.size w u) : WF m u := ⟨h.e.on hb, Go.Joins.tab_stays (g := 5) (by kernel_rfl) h.p hb (Nat.le_refl _)⟩
/-- A node whose operation, if it has one, is known. -/
def opd (y : Nd) : Prop := y.k = 22 → (opOf y.n).isSome = true
set_option maxRecDepth 20000 in
set_option maxHeartbeats 1000000 in
theorem binds_any (y : Nd) (hop : opd y) (b : Option Addr) (cap : Nat) (m : Wm) (w : World) (hW : WE m w) : Calls Tryz.prog 168 #[m.v, ndv y b cap] w fun e w' => e = .returned (.int .i64 ((bindsN y : Nat) + 1)) ∧ Below w.heap.size w w' := by
  have hB := (fn_new w m y b cap).b
  obtain ⟨k, t, n, ks⟩ := y
  obtain ⟨U, hU⟩ : ∃ U, (w.alloc m.x).alloc (nbx ⟨k, t, n, ks⟩ b cap) = U := ⟨_, rfl⟩
  rw [hU] at hB
  replace hU : (w.alloc (.cells #[.map (some m.a), .map (some m.b), .map (some m.c), .map (some m.d), .map (some m.e)] 50)).alloc (.cells #[.int .i64 k, sk t, .int .i64 n, .slice b ks.length cap] 24) = U := hU
  have hB0 := hB
  obtain ⟨⟨g1, g2, hbU⟩, ⟨c0, c1, c2, c3, f0, f1, f2, f3⟩, ⟨d0, d1, d2, d3, d4⟩⟩ := hB0
  by_cases hk : k = 22
  · subst hk
    obtain ⟨lim, hWd⟩ := (hW.on hbU).W
    obtain ⟨kv, hsp, hm3⟩ := hWd.h3
    have hL := look_sp hsp hm3 n false
    rw [if_neg (by decide)] at hL
    obtain ⟨p, hp⟩ := Option.isSome_iff_exists.1 (hop rfl)
    have hp' : opOf n = some p := hp
    rw [hp'] at hL
    have hb' : bindsN ⟨22, t, n, ks⟩ = p.2 := by unfold bindsN; rw [if_pos rfl]; simp [hp']
    rw [hb']
    simp only [Option.map_some, Option.getD_some] at hL
    rw [show ((p.2 + 1 : Nat) : Int) = (p.2 : Int) + 1 by omega] at hL
    obtain ⟨s1, hs1⟩ : ∃ s, (⟨p.1.toArray⟩ : ByteArray) = s := ⟨_, rfl⟩
    rw [hs1] at hL
    clear hop hWd hm3 hsp hp hp' hb' hs1
    have hFd := fun (u : World) => show (Instr.field 77 (.agg #[.string s1, .int .i64 ((p.2 : Int) + 1)]) 1).run Tryz.prog u = .ok (.int .i64 ((p.2 : Int) + 1)) u by simp [Instr.field, run_underlying Tryz.underlying77, go_sem, asAgg]
    go_enter Tryz.func168, Tryz.ntmps168
    go_wp2
    go_ret
    exact ⟨rfl, hbU⟩
  · have hk' : (k == 22) = false := by simpa using hk
    by_cases h6 : k = 23 ∨ k = 24 ∨ k = 25
    · rw [show bindsN ⟨k, t, n, ks⟩ = 6 by unfold bindsN; rw [if_neg hk, if_pos h6]]
      rcases h6 with rfl | rfl | rfl
      · go_enter Tryz.func168, Tryz.ntmps168
        go_wp2
        go_ret
        exact ⟨rfl, hbU⟩
      · go_enter Tryz.func168, Tryz.ntmps168
        go_wp2
        go_ret
        exact ⟨rfl, hbU⟩
      · go_enter Tryz.func168, Tryz.ntmps168
        go_wp2
        go_ret
        exact ⟨rfl, hbU⟩
    · rw [show bindsN ⟨k, t, n, ks⟩ = 7 by unfold bindsN; rw [if_neg hk, if_neg h6]]
      have q23 : (k == 23) = false := by simp; omega
      have q24 : (k == 24) = false := by simp; omega
      have q25 : (k == 25) = false := by simp; omega
      clear h6 hk
      go_enter Tryz.func168, Tryz.ntmps168
      go_wp2
      go_ret
      exact ⟨rfl, hbU⟩
set_option maxRecDepth 20000 in
set_option maxHeartbeats 1000000 in
theorem within_of (y : Nd) (hop : opd y) (hx : Puts 125 y (bsN y)) (least : Nat) (m : Wm) (D : Nat → Prop) (b : Option Addr) (cap : Nat) (w0 : World) (B : Nat) (ts : List (List UInt8)) (W : World) (hF : WF m w0) (hN : NdV D w0 y (ndv y b cap)) (hT : Wt w0 B m ts W) (hlen : ts.length + ((atT least (info y)).map bytesOf).length ≤ 1000000) : Calls Tryz.prog 160 #[.pointer (some ⟨B, 0, none⟩), ndv y b cap, .int .i64 ((least : Nat) + 1)] W (WQ w0 B m (ts ++ (atT least (info y)).map bytesOf) W) := by
  have hb0 := ext_alloc (Below.refl W.heap.size W) (nbx y b cap)
  have hT0 := hT.on hb0
  have hX0 := bx_new hT y b cap
  obtain ⟨U, hU⟩ : ∃ U, W.alloc (nbx y b cap) = U := ⟨_, rfl⟩
  rw [hU] at hT0 hX0 hb0
  replace hU : W.alloc (.cells #[.int .i64 y.k, sk y.t, .int .i64 y.n, .slice b y.kids.length cap] 24) = U := hU
  obtain ⟨c0, c1, c2, c3, f0, f1, f2, f3⟩ := in4 hX0.g
  have hbi := fun u (h : Wt w0 B m ts u) => binds_any y hop b cap m u (hF.e.on h.bl)
  obtain ⟨bt, capt, hbox, _⟩ := hT0.box
  have w0c : U.cell? ⟨B, 0, none⟩ = some (.map (some m.a)) := cell_block hbox rfl
  have w1c : U.cell? ⟨B, 1, none⟩ = some (.map (some m.b)) := cell_block hbox rfl
  have w2c : U.cell? ⟨B, 2, none⟩ = some (.map (some m.c)) := cell_block hbox rfl
  have w3c : U.cell? ⟨B, 3, none⟩ = some (.map (some m.d)) := cell_block hbox rfl
  have w4c : U.cell? ⟨B, 4, none⟩ = some (.map (some m.e)) := cell_block hbox rfl
  obtain ⟨bn, hbn⟩ : ∃ z, bindsN y = z := ⟨_, rfl⟩
  rw [hbn] at hbi
  by_cases hlt : bn < least
  · have ha : atT least (info y) = parT (showT y) := by unfold atT info; rw [if_pos (by rw [hbn]; exact hlt)]
    rw [ha] at hlen ⊢
    have hlt' : (bn : Int) < (least : Int) := by omega
    have e1 : (parT (showT y)).map bytesOf = [S.lp] ++ (bsN y ++ [S.rp]) := by unfold parT bsN; simp [bytesOf]
    rw [e1] at hlen ⊢
    simp only [List.length_append, List.length_cons, List.length_nil] at hlen
    have hx1 := fun u (h : Wt w0 B m (ts ++ [S.lp]) u) => hx m D b cap w0 B (ts ++ [S.lp]) u hF hN h (by simp; omega)
    clear hx hbn ha e1
    go_enter Tryz.func160, Tryz.ntmps160
    go_wp2
    go_region_held3 (fun u => u.cell? ⟨B, 0, none⟩ = some (.map (some m.a)) ∧ u.cell? ⟨B, 1, none⟩ = some (.map (some m.b)) ∧ u.cell? ⟨B, 2, none⟩ = some (.map (some m.c)) ∧ u.cell? ⟨B, 3, none⟩ = some (.map (some m.d)) ∧ u.cell? ⟨B, 4, none⟩ = some (.map (some m.e)) ∧ u.cell? ⟨W.heap.size, 0, none⟩ = some (.int .i64 y.k) ∧ u.cell? ⟨W.heap.size, 1, none⟩ = some (sk y.t) ∧ u.cell? ⟨W.heap.size, 2, none⟩ = some (.int .i64 y.n) ∧ u.cell? ⟨W.heap.size, 3, none⟩ = some (.slice b y.kids.length cap)) (go_keep) (first | (go_at_call 168; refine (hbi _ (hT0.on (Below.refl _ _).drew)).mono ?_; rintro e w1 ⟨rfl, hb1⟩; have hbd := ext_trans (Below.refl _ _).drew hb1; have hT1 := hT0.on hbd; have hX1 := hX0.below hT0.lt hbd; obtain ⟨c0, c1, c2, c3, f0, f1, f2, f3⟩ := in4 hX1.g; have w0c := cellB hbd w0c; have w1c := cellB hbd w1c; have w2c := cellB hbd w2c; have w3c := cellB hbd w3c; have w4c := cellB hbd w4c))
    go_wp2_with (first | (go_at_call 77; refine (q3.t.put1 [41] (by simp; omega)).mono ?_; rintro e w4 q4; have e4 := q4.e; subst e4) | (go_at_call 125; refine (hx1 _ q2.t).mono ?_; rintro e w3 q3; have e3 := q3.e; subst e3) | (go_at_call 77; refine (hT1.put1 [40] (by omega)).mono ?_; rintro e w2 q2; have e2 := q2.e; subst e2; have hX2 := hX1.on q2; obtain ⟨c0, c1, c2, c3, f0, f1, f2, f3⟩ := in4 hX2.g))
    go_end0
    have q := ((q2.then q3).then q4).of hT (ext_trans hb0 hbd)
    rw [List.append_assoc, List.append_assoc] at q
    exact q
  · have ha : atT least (info y) = showT y := by unfold atT info; rw [if_neg (by rw [hbn]; exact hlt)]
    rw [ha] at hlen ⊢
    have hge : (least : Int) ≤ (bn : Int) := by omega
    have hnlt : ¬ (bn : Int) < (least : Int) := by omega
    have hx1 := fun u (h : Wt w0 B m ts u) => hx m D b cap w0 B ts u hF hN h hlen
    clear hx hbn ha hlt
    go_enter Tryz.func160, Tryz.ntmps160
    go_wp2
    go_region_held3 (fun u => u.cell? ⟨B, 0, none⟩ = some (.map (some m.a)) ∧ u.cell? ⟨B, 1, none⟩ = some (.map (some m.b)) ∧ u.cell? ⟨B, 2, none⟩ = some (.map (some m.c)) ∧ u.cell? ⟨B, 3, none⟩ = some (.map (some m.d)) ∧ u.cell? ⟨B, 4, none⟩ = some (.map (some m.e)) ∧ u.cell? ⟨W.heap.size, 0, none⟩ = some (.int .i64 y.k) ∧ u.cell? ⟨W.heap.size, 1, none⟩ = some (sk y.t) ∧ u.cell? ⟨W.heap.size, 2, none⟩ = some (.int .i64 y.n) ∧ u.cell? ⟨W.heap.size, 3, none⟩ = some (.slice b y.kids.length cap)) (go_keep) (first | (go_at_call 168; refine (hbi _ (hT0.on (Below.refl _ _).drew)).mono ?_; rintro e w1 ⟨rfl, hb1⟩; have hbd := ext_trans (Below.refl _ _).drew hb1; have hT1 := hT0.on hbd; have hX1 := hX0.below hT0.lt hbd; obtain ⟨c0, c1, c2, c3, f0, f1, f2, f3⟩ := in4 hX1.g; have w0c := cellB hbd w0c; have w1c := cellB hbd w1c; have w2c := cellB hbd w2c; have w3c := cellB hbd w3c; have w4c := cellB hbd w4c))
    go_wp2_with (go_at_call 125; refine (hx1 _ hT1).mono ?_; rintro e w3 q3; have e3 := q3.e; subst e3)
    go_end0
    exact q3.of hT (ext_trans hb0 hbd)
end Go.Proofs.YtbdkiimggggndaaGreatDoor
namespace Go.Proofs.YtbdkiimggggndaaGreatDoor
open Go.RowKit
open Go

/-- A row's tokens as they are written. -/
def cbN (l : List Nd) : List (List UInt8) := (commaT (l.map info)).map bytesOf
theorem comma_snoc : ∀ (xs : List (Nat × List PT)) (p : Nat × List PT), commaT (xs ++ [p]) = if xs = [] then p.2 else commaT xs ++ st S.cm :: p.2
  | [], p => by simp [commaT]
  | [a], p => by simp [commaT]
  | a :: c :: l, p => by
    have ih := comma_snoc (c :: l) p
    simp only [List.cons_append] at ih ⊢
    rw [commaT, ih]
    simp [commaT]
theorem cbN_snoc (l : List Nd) (y : Nd) : cbN (l ++ [y]) = if l = [] then bsN y else cbN l ++ [S.cm] ++ bsN y := by
  unfold cbN
  rw [List.map_append]
  show (commaT (l.map info ++ [info y])).map bytesOf = _
  rw [comma_snoc]
  by_cases h : l = []
  · subst h; simp [info, bsN]
  · rw [if_neg (by simpa using h), if_neg h]
    simp [info, bsN, bytesOf]
theorem cbN_le (l : List Nd) : ∀ (r : List Nd), (cbN l).length ≤ (cbN (l ++ r)).length := by
  intro r
  induction r generalizing l with
  | nil => simp
  | cons y r ih =>
    rw [show l ++ y :: r = (l ++ [y]) ++ r by simp]
    refine Nat.le_trans ?_ (ih (l ++ [y]))
    rw [cbN_snoc]
    split
    · rename_i h; subst h; simp [cbN, commaT]
    · simp
theorem WQ.start {w0 : World} {B : Nat} {m : Wm} {ts : List (List UInt8)} {W : World} (h : Wt w0 B m ts W) : WQ w0 B m ts W (.returned (.tuple #[])) W := ⟨rfl, h, fun _ _ ha ho => ⟨ho, ha⟩⟩
set_option maxRecDepth 20000 in
set_option maxHeartbeats 1000000 in
theorem wrow_of (l : List Nd) (hl : ∀ y ∈ l, Puts 125 y (bsN y)) (hL0 : l.length ≤ 100000) (m : Wm) (D : Nat → Prop) (b : Option Addr) (cap : Nat) (w0 : World) (B : Nat) (ts : List (List UInt8)) (W : World) (hF : WF m w0) (hk : KA D w0 b cap l) (hT : Wt w0 B m ts W) (hlen : ts.length + (cbN l).length ≤ 1000000) : Calls Tryz.prog 128 #[.pointer (some ⟨B, 0, none⟩), .slice b l.length cap] W (WQ w0 B m (ts ++ cbN l) W) := by
  obtain ⟨L, hL⟩ : ∃ L, l.length = L := ⟨_, rfl⟩
  have hcap : L ≤ cap := by rw [← hL]; exact hk.1
  rw [hL] at hL0 ⊢
  have hI : WQ w0 B m (ts ++ cbN (l.take 0)) W (.returned (.tuple #[])) W := by
    rw [show ts ++ cbN (l.take 0) = ts by simp [cbN, commaT]]
    exact WQ.start hT
  replace hL : Hid _ := hL
  replace hk : Hid _ := hk
  replace hl : Hid _ := hl
  replace hlen : Hid _ := hlen
  replace hI : Hid _ := hI
  go_enter Tryz.func128, Tryz.ntmps128
  go_wp2
  go_loopw [8] (fun ix wr => ∃ j : Nat, j ≤ L ∧ ix = .int .i64 (j : Nat) ∧ WQ w0 B m (ts ++ cbN (l.take j)) W (.returned (.tuple #[])) wr) (fun ix _ => L - (intOf ix).toNat)
  case atStart => exact ⟨0, by omega, rfl, hI.out⟩
  case round =>
    obtain ⟨j, hj, rfl, q⟩ := hrel
    clear hI
    by_cases hlt : j < L
    · have hlt' : (j : Int) < (L : Int) := by omega
      obtain ⟨y, hy⟩ : ∃ y, l[j]? = some y := ⟨_, List.getElem?_eq_getElem (show j < l.length by have := hL.out; omega)⟩
      obtain ⟨g, off, b', cap', rfl, v0, v1, v2, v3, hyV⟩ := KA.at hk.out hy
      have c0 := cellB q.t.bl v0
      have c1 := cellB q.t.bl v1
      have c2 := cellB q.t.bl v2
      have c3 := cellB q.t.bl v3
      have htk := take_next hy
      have hym : y ∈ l := List.mem_of_getElem? hy
      have hple : ts.length + (cbN (l.take (j + 1))).length ≤ 1000000 := by
        have h1 := cbN_le (l.take (j + 1)) (l.drop (j + 1))
        rw [List.take_append_drop] at h1
        have := hlen.out
        omega
      rw [htk, cbN_snoc] at hple
      have hb1 := ext_alloc (Below.refl wr.heap.size wr) (nbx y b' cap')
      have hT1 := q.t.on hb1
      have hX1 := bx_new q.t y b' cap'
      have hP := hl.out y hym
      by_cases hj0 : j = 0
      · subst hj0
        rw [show off + 0 * 4 = off by omega] at c0 c1 c2 c3
        rw [List.take_zero, if_pos rfl] at hple
        have e0 : ts ++ cbN (l.take (0 + 1)) = ts ++ bsN y := by rw [htk, cbN_snoc, List.take_zero, if_pos rfl]
        have e1 : ts ++ cbN (l.take 0) = ts := by simp [cbN, commaT]
        rw [e1] at q hT1
        have hc := hP m D b' cap' w0 B ts (wr.alloc (nbx y b' cap')) hF hyV hT1 hple
        clear v0 v1 v2 v3 hyV hy hP hlen hk hl htk hple hT1 hX1 e1
        replace e0 : Hid _ := e0
        go_wp2_with (go_at_call 125; refine hc.mono ?_; rintro e w3 q3; have e3 := q3.e; subst e3)
        go_roundw
        case rel => exact ⟨0 + 1, by omega, by go_num, by rw [e0.out]; exact q.then (q3.of q.t hb1)⟩
        case measure => simp [intOf]; omega
      · have hne : l.take j ≠ [] := by
          intro e
          rcases List.take_eq_nil_iff.1 e with h | h
          · exact hj0 h
          · have := hL.out
            rw [h] at this
            simp at this
            omega
        rw [if_neg hne] at hple
        have hjp : (0 : Int) < (j : Int) := by omega
        have e0 : ts ++ cbN (l.take (j + 1)) = ts ++ cbN (l.take j) ++ [S.cm] ++ bsN y := by rw [htk, cbN_snoc, if_neg hne]; simp
        obtain ⟨tj, htj⟩ : ∃ t, ts ++ cbN (l.take j) = t := ⟨_, rfl⟩
        rw [htj] at q hT1 e0
        have hlj : tj.length + 1 + (bsN y).length ≤ 1000000 := by rw [← htj]; simp at hple ⊢; omega
        have hc := fun u (h : Wt w0 B m (tj ++ [S.cm]) u) => hP m D b' cap' w0 B (tj ++ [S.cm]) u hF hyV h (by simp; omega)
        have hX1g := hX1
        clear v0 v1 v2 v3 hyV hy hP hlen hk hl htk hple hne htj
        replace e0 : Hid _ := e0
        obtain ⟨U, hU⟩ : ∃ U, wr.alloc (nbx y b' cap') = U := ⟨_, rfl⟩
        rw [hU] at hT1 hX1 hb1
        replace hU : wr.alloc (.cells #[.int .i64 y.k, sk y.t, .int .i64 y.n, .slice b' y.kids.length cap'] 24) = U := hU
        go_wp2_with (first | (go_at_call 125; refine (hc _ q2.t).mono ?_; rintro e w3 q3; have e3 := q3.e; subst e3) | (go_at_call 77; refine (hT1.put1 [44] (by omega)).mono ?_; rintro e w2 q2; have e2 := q2.e; subst e2; have hX2 := hX1.on q2; obtain ⟨c0, c1, c2, c3, f0, f1, f2, f3⟩ := in4 hX2.g))
        go_roundw
        case rel => exact ⟨j + 1, by omega, by go_num, by rw [e0.out]; exact q.then ((q2.then q3).of q.t hb1)⟩
        case measure => simp [intOf]; omega
    · obtain rfl : j = L := by omega
      go_wp2
      go_end0
      have := q
      rw [List.take_of_length_le (by have := hL.out; omega)] at this
      exact this
end Go.Proofs.YtbdkiimggggndaaGreatDoor
namespace Go.Proofs.YtbdkiimggggndaaGreatDoor
open Go.RowKit
open Go

def atB (least : Nat) (y : Nd) : List (List UInt8) := (atT least (info y)).map bytesOf
set_option maxRecDepth 20000 in
set_option maxHeartbeats 1000000 in
theorem signed_of (sg : List UInt8) (k : Int) (t : List UInt8) (n : Int) (y : Nd) (hop : opd y) (hx : Puts 125 y (bsN y)) (m : Wm) (D : Nat → Prop) (b : Option Addr) (cap : Nat) (w0 : World) (B : Nat) (ts : List (List UInt8)) (W : World) (hF : WF m w0) (hN : NdV D w0 ⟨k, t, n, [y]⟩ (ndv ⟨k, t, n, [y]⟩ b cap)) (hT : Wt w0 B m ts W) (hlen : ts.length + (1 + (atB 6 y).length) ≤ 1000000) : Calls Tryz.prog 149 #[.pointer (some ⟨B, 0, none⟩), sk sg, ndv ⟨k, t, n, [y]⟩ b cap] W (WQ w0 B m (ts ++ [sg] ++ atB 6 y) W) := by
  have hb0 := ext_alloc (Below.refl W.heap.size W) (nbx ⟨k, t, n, [y]⟩ b cap)
  have hT0 := hT.on hb0
  have hX0 := bx_new hT ⟨k, t, n, [y]⟩ b cap
  obtain ⟨U, hU⟩ : ∃ U, W.alloc (nbx ⟨k, t, n, [y]⟩ b cap) = U := ⟨_, rfl⟩
  rw [hU] at hT0 hX0 hb0
  replace hU : W.alloc (.cells #[.int .i64 k, sk t, .int .i64 n, .slice b 1 cap] 24) = U := hU
  have hcap : 1 ≤ cap := (KA.of hN).1
  obtain ⟨g, off, b', cap', rfl, v0, v1, v2, v3, hyV⟩ := KA.at (KA.of hN) (j := 0) rfl
  rw [show off + 0 * 4 = off by omega] at v0 v1 v2 v3
  have hw := fun u (h : Wt w0 B m (ts ++ [sg]) u) => within_of y hop hx 6 m D b' cap' w0 B (ts ++ [sg]) u hF hyV h (by unfold atB at hlen; simp at hlen ⊢; omega)
  rw [show ((6 : Nat) : Int) + 1 = 7 by rfl] at hw
  have hP1 := hT0.put1 sg (by omega)
  clear hx hyV
  go_enter Tryz.func149, Tryz.ntmps149
  go_wp2_with (first | (go_at_call 160; refine (hw _ q2.t).mono ?_; rintro e w3 q3; have e3 := q3.e; subst e3) | (go_at_call 77; refine hP1.mono ?_; rintro e w2 q2; have e2 := q2.e; subst e2; have hX2 := hX0.on q2; obtain ⟨c0, c1, c2, c3, f0, f1, f2, f3⟩ := in4 hX2.g; have d0 := cellB q2.t.bl v0; have d1 := cellB q2.t.bl v1; have d2 := cellB q2.t.bl v2; have d3 := cellB q2.t.bl v3))
  go_end0
  exact (q2.then q3).of hT hb0
set_option maxRecDepth 20000 in
set_option maxHeartbeats 1000000 in
theorem suffixed_of (op cl : List UInt8) (k : Int) (t : List UInt8) (n : Int) (y : Nd) (l : List Nd) (hop : opd y) (hx : Puts 125 y (bsN y)) (hl : ∀ z ∈ l, Puts 125 z (bsN z)) (hll : l.length ≤ 90000) (m : Wm) (D : Nat → Prop) (b : Option Addr) (cap : Nat) (w0 : World) (B : Nat) (ts : List (List UInt8)) (W : World) (hF : WF m w0) (hN : NdV D w0 ⟨k, t, n, y :: l⟩ (ndv ⟨k, t, n, y :: l⟩ b cap)) (hT : Wt w0 B m ts W) (hlen : ts.length + ((atB 7 y).length + (1 + ((cbN l).length + 1))) ≤ 1000000) : Calls Tryz.prog 147 #[.pointer (some ⟨B, 0, none⟩), ndv ⟨k, t, n, y :: l⟩ b cap, sk op, sk cl] W (WQ w0 B m (ts ++ atB 7 y ++ [op] ++ cbN l ++ [cl]) W) := by
  have hb0 := ext_alloc (Below.refl W.heap.size W) (nbx ⟨k, t, n, y :: l⟩ b cap)
  have hT0 := hT.on hb0
  have hX0 := bx_new hT ⟨k, t, n, y :: l⟩ b cap
  obtain ⟨L, hL⟩ : ∃ L, l.length = L := ⟨_, rfl⟩
  have hL1 : (y :: l).length = L + 1 := by simp [hL]
  obtain ⟨U, hU⟩ : ∃ U, W.alloc (nbx ⟨k, t, n, y :: l⟩ b cap) = U := ⟨_, rfl⟩
  rw [hU] at hT0 hX0 hb0
  replace hU : W.alloc (.cells #[.int .i64 k, sk t, .int .i64 n, .slice b (y :: l).length cap] 24) = U := hU
  rw [hL1] at hU
  have hcap : L + 1 ≤ cap := by rw [← hL1]; exact (KA.of hN).1
  obtain ⟨g, off, b', cap', rfl, v0, v1, v2, v3, hyV⟩ := KA.at (KA.of hN) (j := 0) rfl
  rw [show off + 0 * 4 = off by omega] at v0 v1 v2 v3
  have hw := within_of y hop hx 7 m D b' cap' w0 B ts U hF hyV hT0 (by unfold atB at hlen; omega)
  rw [show ((7 : Nat) : Int) + 1 = 8 by rfl] at hw
  have hKd : KA D w0 (some ⟨g, off + 4, none⟩) (cap - 1) l := by
    by_cases h0 : l = []
    · subst h0; exact ⟨by simp, .inl rfl⟩
    · have := KA.drop (KA.of hN) 1 (by simp; exact List.length_pos_iff.2 h0)
      simpa using this
  have hr := fun u (h : Wt w0 B m (ts ++ atB 7 y ++ [op]) u) => wrow_of l hl (by omega) m D (some ⟨g, off + 4, none⟩) (cap - 1) w0 B (ts ++ atB 7 y ++ [op]) u hF hKd h (by simp at hlen ⊢; omega)
  rw [hL] at hr
  have hcapI : ((L : Int) + 1) ≤ (cap : Int) := by omega
  have hndv : ndv ⟨k, t, n, y :: l⟩ (some ⟨g, off, none⟩) cap = .agg #[.int .i64 k, sk t, .int .i64 n, .slice (some ⟨g, off, none⟩) (L + 1) cap] := by rw [← hL1]
  rw [hndv]
  have hg0 := hX0.g
  clear hx hyV hKd hndv
  have hX0' := hX0
  obtain ⟨c0, c1, c2, c3, f0, f1, f2, f3⟩ := in4 hX0'.g
  dsimp only at c0 c1 c2 c3
  rw [hL1] at c3
  have d0 := cellB hT0.bl v0
  have d1 := cellB hT0.bl v1
  have d2 := cellB hT0.bl v2
  have d3 := cellB hT0.bl v3
  replace hL1 : Hid _ := hL1
  replace hL : Hid _ := hL
  by_cases hc : cap = 1
  · subst hc
    obtain rfl : L = 0 := by omega
    have hl0 : l = [] := List.length_eq_zero_iff.1 hL.out
    have hr := fun u (h : Wt w0 B m (ts ++ atB 7 y ++ [op]) u) => wrow_of l hl (by omega) m D (some ⟨g, off, none⟩) 0 w0 B (ts ++ atB 7 y ++ [op]) u hF ⟨by rw [hl0]; simp, .inl hl0⟩ h (by simp at hlen ⊢; omega)
    rw [hL.out] at hr
    replace hl0 : Hid _ := hl0
    clear hl
    go_enter Tryz.func147, Tryz.ntmps147
    go_wp2_with (first | (go_at_call 77; refine (q3.t.put1 cl (by simp [atB] at hlen ⊢; omega)).mono ?_; rintro e w4 q4; have e4 := q4.e; subst e4) | (go_at_call 128; refine (hr _ q2.t).mono ?_; rintro e w3 q3; have e3 := q3.e; subst e3) | (go_at_call 77; refine (q1.t.put1 op (by simp [atB] at hlen ⊢; omega)).mono ?_; rintro e w2 q2; have e2 := q2.e; subst e2; have hX2 := (hX0.on q1).on q2; obtain ⟨c0, c1, c2, c3, f0, f1, f2, f3⟩ := in4 hX2.g; dsimp only at c3; rw [hL1.out] at c3) | (go_at_call 160; refine hw.mono ?_; rintro e w1 q1; have e1 := q1.e; subst e1))
    go_end0
    exact (((q1.then q2).then q3).then q4).of hT hb0
  · have hc1 : 1 < cap := by omega
    have hc2 : ¬ cap - 1 = 0 := by omega
    clear hl
    go_enter Tryz.func147, Tryz.ntmps147
    go_wp2_with (first | (go_at_call 77; refine (q3.t.put1 cl (by simp [atB] at hlen ⊢; omega)).mono ?_; rintro e w4 q4; have e4 := q4.e; subst e4) | (go_at_call 128; refine (hr _ q2.t).mono ?_; rintro e w3 q3; have e3 := q3.e; subst e3) | (go_at_call 77; refine (q1.t.put1 op (by simp [atB] at hlen ⊢; omega)).mono ?_; rintro e w2 q2; have e2 := q2.e; subst e2; have hX2 := (hX0.on q1).on q2; obtain ⟨c0, c1, c2, c3, f0, f1, f2, f3⟩ := in4 hX2.g; dsimp only at c3; rw [hL1.out] at c3) | (go_at_call 160; refine hw.mono ?_; rintro e w1 q1; have e1 := q1.e; subst e1))
    go_end0
    exact (((q1.then q2).then q3).then q4).of hT hb0
end Go.Proofs.YtbdkiimggggndaaGreatDoor
