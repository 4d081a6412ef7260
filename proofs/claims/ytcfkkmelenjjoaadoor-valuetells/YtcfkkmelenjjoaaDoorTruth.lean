/- Walks of the value package: what counts as true. -/
import Derived.Test.YtcfkkmelenjjoaaDoorMayAny
import Derived.Test.YtcfkkmelenjjoaaDoorBoth
import Derived.Deep.RegionHeld3
namespace Go.Proofs.YtcfkkmelenjjoaaDoor
open Go.RowKit
open Go

/-- One box: a value's. -/
def Box1 (b : Nat) (k n : Int) (s : ByteArray) (w : World) : Prop :=
  w.cell? ⟨b, 0, none⟩ = some (.int .i64 k) ∧ w.cell? ⟨b, 1, none⟩ = some (.int .i64 n) ∧ w.cell? ⟨b, 2, none⟩ = some (.string s)
theorem Box1.on {b : Nat} {k n : Int} {s : ByteArray} {w w1 : World} (h : Box1 b k n s w) (hb : Below w.heap.size w w1) : Box1 b k n s w1 := ⟨cell_later hb h.1, cell_later hb h.2.1, cell_later hb h.2.2⟩
theorem Box1.alloc {b : Nat} {k n : Int} {s : ByteArray} {w : World} (h : Box1 b k n s w) (o : Obj) : Box1 b k n s (w.alloc o) := h.on (ext_alloc (Below.refl _ _) o)
theorem box1_0 (w : World) (k n : Int) (s : ByteArray) : Box1 w.heap.size k n s (w.alloc (box k n s)) :=
  ⟨by rw [World.cell?_alloc_at _ _ _ _ rfl]; rfl, by rw [World.cell?_alloc_at _ _ _ _ rfl]; rfl, by rw [World.cell?_alloc_at _ _ _ _ rfl]; rfl⟩

theorem Box1.drew {b : Nat} {k n : Int} {s : ByteArray} {w : World} (h : Box1 b k n s w) : Box1 b k n s w.drew := h
theorem ext_drew {a w : World} (h : Below a.heap.size a w) : Below a.heap.size a w.drew := h.drew

theorem each_any (a : Addr) (m : Nat) (w : World) :
    Calls Tryd.prog 19 #[.slice (some a) m m] w fun e w' => e = .returned (.func (.func 33) #[] #[.pointer (some ⟨w.heap.size, 0, none⟩)]) ∧ w' = w.alloc (.cells #[.slice (some a) m m] 48) := by
  have hmf := hmf
  go_enter Tryd.func19, Tryd.ntmps19
  go_wp2
  go_ret
  exact ⟨rfl, rfl⟩

set_option maxHeartbeats 800000 in
theorem truth_f (k n : Int) (s : ByteArray) (w : World) (h : mayB k n s = false) :
    Calls Tryd.prog 11 #[val k n s] w fun e w' => e = .returned (.bool false) ∧ Below w.heap.size w w' := by
  have hmf := hmf
  go_enter Tryd.func11, Tryd.ntmps11
  go_wp2
  go_region_with (go_at_call 9; refine (may_f _ _ _ _ h).mono ?_; rintro e w1 ⟨rfl, hb1⟩)
  all_goals
    go_wp2
    go_ret
    exact ⟨rfl, ext_trans (ext_drew (ext_alloc (Below.refl _ _) _)) hb1⟩
end Go.Proofs.YtcfkkmelenjjoaaDoor
