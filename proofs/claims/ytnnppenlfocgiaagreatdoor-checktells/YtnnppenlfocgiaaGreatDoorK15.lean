/- The program's reader: what a deferred call makes of what was thrown. -/
import Derived.Test.YtnnppenlfocgiaaGreatDoorK12
import Derived.Defers
import Derived.Recover
namespace Go.Proofs.YtnnppenlfocgiaaGreatDoor
open Go.RowKit
open Go

theorem wp_any {c : Code} {P : Program} {a : Act} {w : World} {Q : Exit → Act → World → Prop} {R : Act → World → Prop} (h : ∀ Q' : Exit → Act → World → Prop, (∀ a' w', R a' w' → Q' .normal a' w') → c.wp P Q' a w) (hq : ∀ a' w', R a' w' → Q .normal a' w') : c.wp P Q a w := h Q hq
set_option maxRecDepth 20000 in
set_option maxHeartbeats 400000 in
theorem catch_idle (p q : Addr) (w : World) :
    CallsD Tryz.prog 38 #[.pointer (some p), .pointer (some q)] .returning w fun e u' w' => e = .returned (.tuple #[]) ∧ u' = .returning ∧ w' = w := by
  refine callsD_of_wpS Tryz.func38 rfl fun c₀ cs hu => ?_
  apply wpS_seq
  apply wpS_region
  simp [wpOpsS, go_sem, recoverD, hu, Tryz.ntmps38, Exit.thenS]
  refine wpS_of_wp ?_
  refine wp_any (R := fun a' w' => a'.defers = [] ∧ w' = w) (fun Q hQ => ?_) ?_
  · clear hu
    have hf : #[Value.pointer (some p), .pointer (some q)] ++ (Array.replicate 18 undef).setIfInBounds 4 Value.nilIface = #[.pointer (some p), .pointer (some q), undef, undef, undef, undef, .nilIface, undef, undef, undef, undef, undef, undef, undef, undef, undef, undef, undef, undef, undef] := by kernel_rfl
    rw [hf]
    clear hf
    go_wp2
  · rintro a' w' ⟨h1, rfl⟩
    cases c₀
    simp_all [bodyPostS, results, Tryz.results38]
set_option maxRecDepth 20000 in
set_option maxHeartbeats 400000 in
theorem catch_stray (b : Nat) (q : Addr) (a : Int) (A0 A1 : Value) (older : List PanicEntry) (w : World) (hc : w.heap[b]? = some (.cells #[A0, A1] 27)) :
    CallsD Tryz.prog 38 #[.pointer (some ⟨b, 0, none⟩), .pointer (some q)] (.panicking ({ v := .iface 74 (.agg #[.int .i64 a]), recovered := false } :: older)) w fun e u' w' => e = .returned (.tuple #[]) ∧ u' = .panicking ({ v := .iface 74 (.agg #[.int .i64 a]), recovered := true } :: older) ∧ w' = ((w.setCell ⟨b, 0, none⟩ (.int .i64 2)).setCell ⟨b, 1, none⟩ (.int .i64 a)).alloc (.cells #[.int .i64 a] 74) := by
  have hb := block_lt hc
  have c0 := cell_block (i := 0) hc rfl
  have c1 := cell_block (i := 1) hc rfl
  have f0 := frozen_block (i := 0) hc
  have f1 := frozen_block (i := 1) hc
  have n1 : ¬ b = w.heap.size := by omega
  have y1 : ∀ u : World, (Instr.typeAssert (.iface 74 (.agg #[.int .i64 a])) 20 74 true).run Tryz.prog u = .ok (.tuple #[.agg #[.int .i64 a], .bool true]) u := fun _ => by kernel_rfl
  have n2 : ¬ w.heap.size = b := by omega
  refine callsD_of_wpS Tryz.func38 rfl fun c₀ cs hu => ?_
  apply wpS_seq
  apply wpS_region
  simp [wpOpsS, go_sem, recoverD, hu, Tryz.ntmps38, Exit.thenS]
  refine wpS_of_wp ?_
  refine wp_any (R := fun a' w' => a'.defers = [] ∧ w' = ((w.setCell ⟨b, 0, none⟩ (.int .i64 2)).setCell ⟨b, 1, none⟩ (.int .i64 a)).alloc (.cells #[.int .i64 a] 74)) (fun Q hQ => ?_) ?_
  · clear hu
    have hf : #[Value.pointer (some ⟨b, 0, none⟩), .pointer (some q)] ++ (Array.replicate 18 undef).setIfInBounds 4 (Value.iface 74 (.agg #[.int .i64 a])) = #[.pointer (some ⟨b, 0, none⟩), .pointer (some q), undef, undef, undef, undef, .iface 74 (.agg #[.int .i64 a]), undef, undef, undef, undef, undef, undef, undef, undef, undef, undef, undef, undef, undef] := by kernel_rfl
    rw [hf]
    clear hf hc
    go_wp2
  · rintro a' w' ⟨h1, rfl⟩
    cases c₀
    simp_all [bodyPostS, results, Tryz.results38]
set_option maxRecDepth 20000 in
set_option maxHeartbeats 400000 in
theorem catch_ended (b : Nat) (q : Addr) (a : Int) (A0 A1 : Value) (older : List PanicEntry) (w : World) (hc : w.heap[b]? = some (.cells #[A0, A1] 27)) (hq : w.cell? q = some (.int .i64 a)) (hq0 : ∃ g, q = ⟨g, 0, none⟩) :
    CallsD Tryz.prog 38 #[.pointer (some ⟨b, 0, none⟩), .pointer (some q)] (.panicking ({ v := .iface 76 (.agg #[]), recovered := false } :: older)) w fun e u' w' => e = .returned (.tuple #[]) ∧ u' = .panicking ({ v := .iface 76 (.agg #[]), recovered := true } :: older) ∧ w' = ((w.setCell ⟨b, 0, none⟩ (.int .i64 2)).setCell ⟨b, 1, none⟩ (.int .i64 a)).alloc (.cells #[] 76) := by
  have hb := block_lt hc
  have c0 := cell_block (i := 0) hc rfl
  have c1 := cell_block (i := 1) hc rfl
  have f0 := frozen_block (i := 0) hc
  have f1 := frozen_block (i := 1) hc
  have n1 : ¬ b = w.heap.size := by omega
  obtain ⟨g, rfl⟩ := hq0
  have hqa := fun o => cellB (ext_alloc (Below.refl _ w) o) hq
  have y1 : ∀ u : World, (Instr.typeAssert (.iface 76 (.agg #[])) 20 74 true).run Tryz.prog u = .ok (.tuple #[.agg #[.int .i64 0], .bool false]) u := fun _ => by kernel_rfl
  have y2 : ∀ u : World, (Instr.typeAssert (.iface 76 (.agg #[])) 20 76 true).run Tryz.prog u = .ok (.tuple #[.agg #[], .bool true]) u := fun _ => by kernel_rfl
  have n2 : ¬ w.heap.size = b := by omega
  refine callsD_of_wpS Tryz.func38 rfl fun c₀ cs hu => ?_
  apply wpS_seq
  apply wpS_region
  simp [wpOpsS, go_sem, recoverD, hu, Tryz.ntmps38, Exit.thenS]
  refine wpS_of_wp ?_
  refine wp_any (R := fun a' w' => a'.defers = [] ∧ w' = ((w.setCell ⟨b, 0, none⟩ (.int .i64 2)).setCell ⟨b, 1, none⟩ (.int .i64 a)).alloc (.cells #[] 76)) (fun Q hQ => ?_) ?_
  · clear hu
    have hf : #[Value.pointer (some ⟨b, 0, none⟩), .pointer (some ⟨g, 0, none⟩)] ++ (Array.replicate 18 undef).setIfInBounds 4 (Value.iface 76 (.agg #[])) = #[.pointer (some ⟨b, 0, none⟩), .pointer (some ⟨g, 0, none⟩), undef, undef, undef, undef, .iface 76 (.agg #[]), undef, undef, undef, undef, undef, undef, undef, undef, undef, undef, undef, undef, undef] := by kernel_rfl
    rw [hf]
    clear hf hc
    go_wp2
  · rintro a' w' ⟨h1, rfl⟩
    cases c₀
    simp_all [bodyPostS, results, Tryz.results38]
end Go.Proofs.YtnnppenlfocgiaaGreatDoor
