/- A machine's state, made anew. -/
import Derived.Test.YthpgbienakcbeaaGreatDoorS45
namespace Go.Proofs.YthpgbienakcbeaaGreatDoor
open Go.RowKit Go
set_option maxRecDepth 100000
set_option maxHeartbeats 8000000
set_option linter.all false
variable {b lo F fc T tc U uc : Nat} {W Y : World} {fw : List Fw} {tw : List Tw} {s : St}
section
variable [DecidableEq Vl]
theorem Rw.beh {O A : List Nat} {sv : Value} {xs : List Vl} (h : Rw W (O ++ (A ++ List.range (b + 1))) sv xs) (hb : Beh b W Y) : Rw Y (O ++ A) sv xs := by
 obtain ⟨a, cap, e, hl, hx⟩ := h
 refine ⟨a, cap, e, hl, fun hne => ?_⟩
 obtain ⟨c, off, ea, h1, h2, hc⟩ := hx hne
 simp only [List.mem_append, List.mem_range, not_or] at h1
 have hk := hb.k c (by omega) h2
 have hcell : ∀ o, Y.cell? ⟨c, o, none⟩ = W.cell? ⟨c, o, none⟩ := fun o => by simp only [World.cell?]; rw [hk]
 refine ⟨c, off, ea, by simp only [List.mem_append, not_or]; exact ⟨h1.1, h1.2.1⟩, Nat.lt_of_lt_of_le h2 hb.s, fun j x hj => ?_⟩
 obtain ⟨t0, t1, t2⟩ := hc j x hj
 exact ⟨(hcell _).trans t0, (hcell _).trans t1, (hcell _).trans t2⟩
theorem FS.keep (h : FS lo W F fc T tc U uc fw tw s) (hb : Beh b W Y) (hl : b < lo) : FS lo Y F fc T tc U uc fw tw s := by
 have hlt : ∀ k ∈ F :: T :: U :: fw.map Fw.g, b < k := fun k hk => Nat.lt_of_lt_of_le hl (h.lo k hk)
 refine ⟨hb.own h.fo (hlt _ (by simp)), hb.own h.to (hlt _ (by simp)), hb.own h.uo (hlt _ (by simp)), h.hf, h.ht, fun q hq => hb.own (h.rg q hq) (hlt _ ?_), h.nd, h.lo, fun A hA q hq => ?_⟩
 ·exact List.mem_cons_of_mem _ (List.mem_cons_of_mem _ (List.mem_cons_of_mem _ (List.mem_map.2 ⟨q, hq, rfl⟩)))
 ·have hA' : ∀ k ∈ A ++ List.range (b + 1), k < lo := fun k hk => by
   rcases List.mem_append.1 hk with hk | hk
   ·exact hA k hk
   ·have := List.mem_range.1 hk
    omega
  exact ⟨(h.tr _ hA' q hq).1.beh hb, (h.tr _ hA' q hq).2.beh hb⟩
theorem FS.weak {lo' : Nat} (h : FS lo W F fc T tc U uc fw tw s) (hl : lo' ≤ lo) : FS lo' W F fc T tc U uc fw tw s :=
 ⟨h.fo, h.to, h.uo, h.hf, h.ht, h.rg, h.nd, fun k hk => Nat.le_trans hl (h.lo k hk), fun A hA q hq => h.tr A (fun k hk => Nat.lt_of_lt_of_le (hA k hk) hl) q hq⟩
theorem d4y {tm : Array Value} {B : Nat} {a b c d e f g h i : Value} (hp : tm[2]?.getD undef = .pointer (some ⟨B, 0, none⟩)) (hx : W.heap[B]? = some (.cells #[a, b, c, d, e, f, g, h, i] 32)) : (results Tryz.f32 tm).run Tryz.prog W = .ok (.agg #[a, b, c, d, e, f, g, h, i]) W := by
 obtain ⟨d0, d1, d2, d3, d4, d5, d6, d7, d8⟩ := nine hx
 simp [results, Tryz.results32, go_sem, hp, d0, d1, d2, d3, d4, d5, d6, d7, d8]
theorem b7p {w0 : World} {p : Mp} {fv : Value} {mn : Int} (h : Mc w0 p fv mn s W) (hS : Small s) :
  Calls Tryz.prog 32 #[.pointer (some ⟨p.B, 0, none⟩)] W fun e W' => ∃ F fc T tc U uc fw tw, e = .returned (stv (.slice (some ⟨F, 0, none⟩) s.fr.length fc) (.slice (some ⟨T, 0, none⟩) s.tb.length tc) (.slice (some ⟨U, 0, none⟩) s.out.length uc) s) ∧ FS W.heap.size W' F fc T tc U uc fw tw s ∧ Below W.heap.size W W' := by
 have hI := h.stin
 have hbox := h.box
 obtain ⟨w1, hw1⟩ := exq (W.alloc zst)
 have E0 : Below W.heap.size W w1 := by rw [← hw1]; exact a0c (Below.refl W.heap.size W) _
 have g0 : w1.heap[W.heap.size]? = some zst := by rw [← hw1]; exact a0h _ _
 have g1 := a0d E0 hbox
 have hf := b3e _ _ _ s w1 (hI.at E0) hS
 obtain ⟨nf, hnf⟩ := exq (s.fr.length)
 obtain ⟨nt, hnt⟩ := exq (s.tb.length)
 obtain ⟨no, hno⟩ := exq (s.out.length)
 simp only [mfv, mtv, muv] at hf
 rw [hnf, hnt, hno] at hf g1 ⊢
 clear hI hS hbox h
 have a2 := a0a (i := 2) g1 rfl
 have a3 := a0a (i := 3) g1 rfl
 have a4 := a0a (i := 4) g1 rfl
 have a5 := a0a (i := 5) g1 rfl
 have a6 := a0a (i := 6) g1 rfl
 have a7 := a0a (i := 7) g1 rfl
 have a8 := a0a (i := 8) g1 rfl
 have a9 := a0a (i := 9) g1 rfl
 have a10 := a0a (i := 10) g1 rfl
 go_enter Tryz.func32, Tryz.ntmps32
 go_wp2_with (go_at_call 50; (try rw [hw1]); refine hf.mono ?_; rintro e w2 ⟨F, fc, T, tc, U, uc, fw, tw, rfl, hFS, hb2⟩; refine Hid.out ?_)
 refine Lib.hid ?_
 have G0 := a0d hb2 g0
 have hz : W.heap.size < w1.heap.size := a0n g0
 clear a2 a3 a4 a5 a6 a7 a8 a9 a10
 have m0 := a0a (i := 0) G0 rfl
 have z0 := a0e (i := 0) G0
 have m1 := a0a (i := 1) G0 rfl
 have z1 := a0e (i := 1) G0
 have m2 := a0a (i := 2) G0 rfl
 have z2 := a0e (i := 2) G0
 have m3 := a0a (i := 3) G0 rfl
 have z3 := a0e (i := 3) G0
 have m4 := a0a (i := 4) G0 rfl
 have z4 := a0e (i := 4) G0
 have m5 := a0a (i := 5) G0 rfl
 have z5 := a0e (i := 5) G0
 have m6 := a0a (i := 6) G0 rfl
 have z6 := a0e (i := 6) G0
 have m7 := a0a (i := 7) G0 rfl
 have z7 := a0e (i := 7) G0
 have m8 := a0a (i := 8) G0 rfl
 have z8 := a0e (i := 8) G0
 obtain ⟨Y, hY⟩ := exq ((((((((((w2.setCell ⟨W.heap.size, 0, none⟩ (.slice (some ⟨F, 0, none⟩) nf fc)).setCell ⟨W.heap.size, 1, none⟩ (.slice (some ⟨T, 0, none⟩) nt tc)).setCell ⟨W.heap.size, 2, none⟩ (.slice (some ⟨U, 0, none⟩) no uc)).setCell ⟨W.heap.size, 3, none⟩ (.int .i64 s.st)).setCell ⟨W.heap.size, 4, none⟩ (.int .i64 s.en)).setCell ⟨W.heap.size, 5, none⟩ (.int .i64 s.er)).setCell ⟨W.heap.size, 6, none⟩ (.int .i64 s.la.k)).setCell ⟨W.heap.size, 7, none⟩ (.int .i64 s.la.n)).setCell ⟨W.heap.size, 8, none⟩ (.string s.la.s)))
 have E5 : Below W.heap.size W Y := by
  rw [← hY]
  exact ((((((((((a0b E0 hb2).setCell (p := ⟨W.heap.size, 0, none⟩) (Nat.le_refl _) _).setCell (p := ⟨W.heap.size, 1, none⟩) (Nat.le_refl _) _).setCell (p := ⟨W.heap.size, 2, none⟩) (Nat.le_refl _) _).setCell (p := ⟨W.heap.size, 3, none⟩) (Nat.le_refl _) _).setCell (p := ⟨W.heap.size, 4, none⟩) (Nat.le_refl _) _).setCell (p := ⟨W.heap.size, 5, none⟩) (Nat.le_refl _) _).setCell (p := ⟨W.heap.size, 6, none⟩) (Nat.le_refl _) _).setCell (p := ⟨W.heap.size, 7, none⟩) (Nat.le_refl _) _).setCell (p := ⟨W.heap.size, 8, none⟩) (Nat.le_refl _) _)
 have P1 : Y.heap[W.heap.size]? = some (stb (.slice (some ⟨F, 0, none⟩) nf fc) (.slice (some ⟨T, 0, none⟩) nt tc) (.slice (some ⟨U, 0, none⟩) no uc) s) := by rw [← hY]; exact (a0k _ (a0k _ (a0k _ (a0k _ (a0k _ (a0k _ (a0k _ (a0k _ (a0k _ G0)))))))))
 have B5 : Beh W.heap.size w2 Y := by rw [← hY]; exact ((((((((((Beh.refl _ _).set (Nat.le_refl _) _ _).set (Nat.le_refl _) _ _).set (Nat.le_refl _) _ _).set (Nat.le_refl _) _ _).set (Nat.le_refl _) _ _).set (Nat.le_refl _) _ _).set (Nat.le_refl _) _ _).set (Nat.le_refl _) _ _).set (Nat.le_refl _) _ _)
 go_wp2
 exact bodyPost_ret (d4y (B := W.heap.size) rfl P1) rfl ⟨F, fc, T, tc, U, uc, fw, tw, rfl, (hFS.keep B5 hz).weak E0.size, E5⟩
end
end Go.Proofs.YthpgbienakcbeaaGreatDoor
