/- The document's instr: an order at its place. -/
import Derived.Test.YtklgjfpgclelbaaCA
namespace Go.Proofs.Ytklgjfpgclelbaa
open Go.RowKit
open Go

abbrev fbox (f : Fd) : Obj := .cells #[.int .i64 f.p, .int .i64 f.r, f.cv, f.iv] 30
theorem rreg_any (f : Fd) (n : Int) (w : World) : Calls Try.prog 19 #[f.v, .int .i64 n] w fun e w' => e = .returned (.bool (belB n f.r)) ∧ w' = w.alloc (fbox f) := by
  rcases (Bool.eq_false_or_eq_true (decide (0 ≤ n))) with hn | hn
  all_goals
    go_enter Try.func19, Try.ntmps19
    go_wp2
    go_ret
    exact ⟨ret_bool (by simp [belB, hn]), rfl⟩
theorem rord_any (f : Fd) (n : Int) (w : World) : Calls Try.prog 20 #[f.v, .int .i64 n] w fun e w' => e = .returned (.bool (belB n f.is.length)) ∧ w' = w.alloc (fbox f) := by
  rcases (Bool.eq_false_or_eq_true (decide (0 ≤ n))) with hn | hn
  all_goals
    go_enter Try.func20, Try.ntmps20
    go_wp2
    go_ret
    exact ⟨ret_bool (by simp [belB, hn]), rfl⟩

end Go.Proofs.Ytklgjfpgclelbaa
