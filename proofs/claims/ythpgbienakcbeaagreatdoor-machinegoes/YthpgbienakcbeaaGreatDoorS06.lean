/- Pieces of a function's text, frames by one letter. -/
import Derived.Test.YthpgbienakcbeaaGreatDoorS01
import Derived.BigQuiet
import Derived.Lib.Hide
namespace Go.Proofs.YthpgbienakcbeaaGreatDoor
open Go.RowKit Go
set_option maxRecDepth 100000
set_option maxHeartbeats 8000000
set_option linter.all false
variable {a : Act} {p5 v p6 : Value} {P : Program} {B D nf cc n1 fc nt tc no oc nr rc n m fb foff ob ooff : Nat} {ca fa ta oa ra : Option Addr} {mn f pc d st en er lk ln : Int} {ls s : ByteArray} {v1 wr : World} {K : Exit → Act → World → Prop} {R B1 B2 B3 : Bool}
def a5x (i : Nat) : Code → Option Code
 | .region j o d => if j = i then some (.region j o d) else none
 | .seq a b => match a5x i a with
  | some c => some c
  | none => a5x i b
 | .block _ c => a5x i c
 | .loop c => a5x i c
 | .cond _ a b => match a5x i a with
  | some c => some c
  | none => a5x i b
 | _ => none
def a3l (i : Nat) : Code → Option Code
 | .seq a b => match a3l i a with
  | some c => some c
  | none => a3l i b
 | .block j c => if j = i then some c else a3l i c
 | .loop c => a3l i c
 | .cond _ a b => match a3l i a with
  | some c => some c
  | none => a3l i b
 | _ => none
def a6n (i : Nat) : Code → Option Code
 | .seq (.region j o d) b => if j = i then some (.seq (.region j o d) b) else a6n i b
 | .seq a b => match a6n i a with
  | some c => some c
  | none => a6n i b
 | .block _ c => a6n i c
 | .loop c => a6n i c
 | _ => none
def seqIn2 (i : Nat) : Code → Option Code
 | .seq (.seq (.region j o d) c) b => if j = i then some (.seq (.seq (.region j o d) c) b) else seqIn2 i b
 | .seq _ b => seqIn2 i b
 | _ => none
def a5u : Code → Code
 | .loop c => c
 | c => c
theorem b1c (t : Array Value) (n : Nat) (h : t.size = n) : t = ((List.range n).map fun k => t.getD k undef).toArray := by
 apply Array.ext
 ·simp [h]
 ·intro i h1 h2
  simp [h1]
structure Fr7 (a : Act) (p2 p3 p5 : Value) : Prop where
 sz : a.tmps.size = 218
 df : a.defers = []
 g2 : a.tmps.getD 2 undef = p2
 g3 : a.tmps.getD 3 undef = p3
 g5 : a.tmps.getD 5 undef = p5
theorem Fr7.lit {p2 p3 : Value} (h : Fr7 a p2 p3 p5) : ∃ x : Nat → Value, a = { tmps := #[x 0, x 1, p2, p3, x 4, p5, x 6, x 7, x 8, x 9, x 10, x 11, x 12, x 13, x 14, x 15, x 16, x 17, x 18, x 19, x 20, x 21, x 22, x 23, x 24, x 25, x 26, x 27, x 28, x 29, x 30, x 31, x 32, x 33, x 34, x 35, x 36, x 37, x 38, x 39, x 40, x 41, x 42, x 43, x 44, x 45, x 46, x 47, x 48, x 49, x 50, x 51, x 52, x 53, x 54, x 55, x 56, x 57, x 58, x 59, x 60, x 61, x 62, x 63, x 64, x 65, x 66, x 67, x 68, x 69, x 70, x 71, x 72, x 73, x 74, x 75, x 76, x 77, x 78, x 79, x 80, x 81, x 82, x 83, x 84, x 85, x 86, x 87, x 88, x 89, x 90, x 91, x 92, x 93, x 94, x 95, x 96, x 97, x 98, x 99, x 100, x 101, x 102, x 103, x 104, x 105, x 106, x 107, x 108, x 109, x 110, x 111, x 112, x 113, x 114, x 115, x 116, x 117, x 118, x 119, x 120, x 121, x 122, x 123, x 124, x 125, x 126, x 127, x 128, x 129, x 130, x 131, x 132, x 133, x 134, x 135, x 136, x 137, x 138, x 139, x 140, x 141, x 142, x 143, x 144, x 145, x 146, x 147, x 148, x 149, x 150, x 151, x 152, x 153, x 154, x 155, x 156, x 157, x 158, x 159, x 160, x 161, x 162, x 163, x 164, x 165, x 166, x 167, x 168, x 169, x 170, x 171, x 172, x 173, x 174, x 175, x 176, x 177, x 178, x 179, x 180, x 181, x 182, x 183, x 184, x 185, x 186, x 187, x 188, x 189, x 190, x 191, x 192, x 193, x 194, x 195, x 196, x 197, x 198, x 199, x 200, x 201, x 202, x 203, x 204, x 205, x 206, x 207, x 208, x 209, x 210, x 211, x 212, x 213, x 214, x 215, x 216, x 217], defers := [] } ∧ ∀ k, x k = a.tmps.getD k undef := by
 refine ⟨fun k => a.tmps.getD k undef, ?_, fun _ => rfl⟩
 have e := b1c a.tmps 218 h.sz
 have e2 : ((List.range 218).map fun k => a.tmps.getD k undef).toArray = (let x := (fun k => a.tmps.getD k undef); #[x 0, x 1, x 2, x 3, x 4, x 5, x 6, x 7, x 8, x 9, x 10, x 11, x 12, x 13, x 14, x 15, x 16, x 17, x 18, x 19, x 20, x 21, x 22, x 23, x 24, x 25, x 26, x 27, x 28, x 29, x 30, x 31, x 32, x 33, x 34, x 35, x 36, x 37, x 38, x 39, x 40, x 41, x 42, x 43, x 44, x 45, x 46, x 47, x 48, x 49, x 50, x 51, x 52, x 53, x 54, x 55, x 56, x 57, x 58, x 59, x 60, x 61, x 62, x 63, x 64, x 65, x 66, x 67, x 68, x 69, x 70, x 71, x 72, x 73, x 74, x 75, x 76, x 77, x 78, x 79, x 80, x 81, x 82, x 83, x 84, x 85, x 86, x 87, x 88, x 89, x 90, x 91, x 92, x 93, x 94, x 95, x 96, x 97, x 98, x 99, x 100, x 101, x 102, x 103, x 104, x 105, x 106, x 107, x 108, x 109, x 110, x 111, x 112, x 113, x 114, x 115, x 116, x 117, x 118, x 119, x 120, x 121, x 122, x 123, x 124, x 125, x 126, x 127, x 128, x 129, x 130, x 131, x 132, x 133, x 134, x 135, x 136, x 137, x 138, x 139, x 140, x 141, x 142, x 143, x 144, x 145, x 146, x 147, x 148, x 149, x 150, x 151, x 152, x 153, x 154, x 155, x 156, x 157, x 158, x 159, x 160, x 161, x 162, x 163, x 164, x 165, x 166, x 167, x 168, x 169, x 170, x 171, x 172, x 173, x 174, x 175, x 176, x 177, x 178, x 179, x 180, x 181, x 182, x 183, x 184, x 185, x 186, x 187, x 188, x 189, x 190, x 191, x 192, x 193, x 194, x 195, x 196, x 197, x 198, x 199, x 200, x 201, x 202, x 203, x 204, x 205, x 206, x 207, x 208, x 209, x 210, x 211, x 212, x 213, x 214, x 215, x 216, x 217] : Array Value) := rfl
 rw [e2] at e
 simp only [h.g2, h.g3, h.g5] at e
 obtain ⟨t, d⟩ := a
 obtain rfl : d = [] := h.df
 simp only at e
 exact congrArg (fun t => ({ tmps := t, defers := [] } : Act)) e
theorem a9h {id : Nat} {Q : Exit → Act → World → Prop} {w : World} {l : List Oper} (C : World → Prop) (hm : P.follows .mixedOrders = true) (hB : Region.lexB .any l.toArray = true) (hC : C w.drew) (h : wpQuiet P l.toArray C (fun a' => ∀ w', C w' → Q .normal a' w') l a) : (Code.region id l.toArray true).wp P Q a w :=
 wp_region_quiet (C := C) hm hB hC (by simpa using h)
theorem a6o {ops : Array Oper} {C : World → Prop} {Q : Act → Prop} {o : Oper} {rest : List Oper} (hw : Region.wanted o (yielded ops a.tmps) = true) (hv : ∀ u, C u → o.quietAt P a C u v) (h : wpQuiet P ops C Q rest (a.put o.dst v)) : wpQuiet P ops C Q (o :: rest) a := BigFrame.wpQuiet_want hw fun _ hK => ⟨v, hv, hK _ h⟩
structure S7 (u : World) (B : Nat) (ca : Option Addr) (nf cc : Nat) (mn : Int) (fa : Option Addr) (n1 fc : Nat) (ta : Option Addr) (nt tc : Nat) (oa : Option Addr) (no oc : Nat) (st en er lk ln : Int) (ls : ByteArray) : Prop where
 p0 : u.cell? ⟨B, 0, none⟩ = some (.slice ca nf cc)
 p1 : u.cell? ⟨B, 1, none⟩ = some (.int .i64 mn)
 s0 : u.cell? ⟨B + 1, 0, none⟩ = some (.slice fa n1 fc)
 s1 : u.cell? ⟨B + 1, 1, none⟩ = some (.slice ta nt tc)
 s2 : u.cell? ⟨B + 1, 2, none⟩ = some (.slice oa no oc)
 s3 : u.cell? ⟨B + 1, 3, none⟩ = some (.int .i64 st)
 s4 : u.cell? ⟨B + 1, 4, none⟩ = some (.int .i64 en)
 s5 : u.cell? ⟨B + 1, 5, none⟩ = some (.int .i64 er)
 s6 : u.cell? ⟨B + 1, 6, none⟩ = some (.int .i64 lk)
 s7 : u.cell? ⟨B + 1, 7, none⟩ = some (.int .i64 ln)
 s8 : u.cell? ⟨B + 1, 8, none⟩ = some (.string ls)
structure F7 (u : World) (D : Nat) (f pc d : Int) (ra : Option Addr) (nr rc : Nat) : Prop where
 f0 : u.cell? ⟨D, 0, none⟩ = some (.int .i64 f)
 f1 : u.cell? ⟨D, 1, none⟩ = some (.int .i64 pc)
 f2 : u.cell? ⟨D, 2, none⟩ = some (.int .i64 d)
 f3 : u.cell? ⟨D, 3, none⟩ = some (.slice ra nr rc)
def Reg8 (B D : Nat) (p5 p6 : Value) (v1 : World) (R : Bool) : Prop := ∀ (K : Exit → Act → World → Prop) (a : Act), Fr7 a (.pointer (some ⟨B, 0, none⟩)) (.pointer (some ⟨B + 1, 0, none⟩)) p5 → a.tmps.getD 6 undef = p6 → a.tmps.getD 7 undef = .pointer (some ⟨D, 0, none⟩) →
  (∀ a' w', Fr7 a' (.pointer (some ⟨B, 0, none⟩)) (.pointer (some ⟨B + 1, 0, none⟩)) p5 → a'.tmps.getD 6 undef = p6 → a'.tmps.getD 7 undef = .pointer (some ⟨D, 0, none⟩) → a'.tmps.getD 104 undef = .bool R → Below v1.heap.size v1 w' → K .normal a' w') →
  Code.wp Tryz.prog ((Tryz.f7.body.bind (a5x 8)).getD .skip) K a v1
structure F7b (u : World) (b o : Nat) (fp fr : Int) (fca : Option Addr) (fcs fcc : Nat) (fia : Option Addr) (fis fic : Nat) : Prop where
 p : u.cell? ⟨b, o, none⟩ = some (.int .i64 fp)
 r : u.cell? ⟨b, o + 1, none⟩ = some (.int .i64 fr)
 c : u.cell? ⟨b, o + 2, none⟩ = some (.slice fca fcs fcc)
 i : u.cell? ⟨b, o + 3, none⟩ = some (.slice fia fis fic)
theorem d0x (hC : ∀ u, Below v1.heap.size v1 u → S7 u B ca nf cc mn fa n1 fc ta nt tc oa no oc st en er lk ln ls ∧ F7 u D f pc d ra nr rc) (d1 : decide (f < 0) = true) :
  Reg8 B D p5 p6 v1 true := by
 intro K a hfr h6 h7 hK
 obtain ⟨x, hx, hk⟩ := hfr.lit
 rw [(hk 6).trans h6, (hk 7).trans h7] at hx
 subst hx
 clear hk h6 h7 hfr
 conv => arg 2; whnf
 replace hC : Hid _ := hC
 replace hK : Hid _ := hK
 refine a9h (Below v1.heap.size v1) (by kernel_rfl) (by kernel_rfl) (Below.refl _ _).drew ?_
 repeat (first
  | go_big_quiet_skip
  | (
   apply a6o
   ·kernel_rfl
   ·intro u hu
    obtain ⟨_, ⟨_, _, _, _⟩⟩ := hC.out u hu
    go_simp
    first | with_reducible rfl | skip
   simp only [Act.put, List.setIfInBounds_toArray, List.set_cons_zero, List.set_cons_succ]))
 refine wpQuiet_nil (fun w2 hb2 => ?_)
 exact hK.out _ _ ⟨rfl, rfl, rfl, rfl, rfl⟩ rfl rfl rfl hb2
theorem c7l (hC : ∀ u, Below v1.heap.size v1 u → S7 u B ca nf cc mn fa n1 fc ta nt tc oa no oc st en er lk ln ls ∧ F7 u D f pc d ra nr rc) (d1 : decide (f < 0) = false) (d2 : decide ((nf : Int) ≤ f) = true) :
  Reg8 B D p5 p6 v1 true := by
 intro K a hfr h6 h7 hK
 obtain ⟨x, hx, hk⟩ := hfr.lit
 rw [(hk 6).trans h6, (hk 7).trans h7] at hx
 subst hx
 clear hk h6 h7 hfr
 conv => arg 2; whnf
 replace hC : Hid _ := hC
 replace hK : Hid _ := hK
 refine a9h (Below v1.heap.size v1) (by kernel_rfl) (by kernel_rfl) (Below.refl _ _).drew ?_
 repeat (first
  | go_big_quiet_skip
  | (
   apply a6o
   ·kernel_rfl
   ·intro u hu
    obtain ⟨⟨_, _, _, _, _, _, _, _, _, _, _⟩, ⟨_, _, _, _⟩⟩ := hC.out u hu
    go_simp
    first | with_reducible rfl | skip
   simp only [Act.put, List.setIfInBounds_toArray, List.set_cons_zero, List.set_cons_succ]))
 refine wpQuiet_nil (fun w2 hb2 => ?_)
 exact hK.out _ _ ⟨rfl, rfl, rfl, rfl, rfl⟩ rfl rfl rfl hb2
structure F7b4 (u : World) (b o : Nat) (f pc d : Int) (ra : Option Addr) (nr rc : Nat) : Prop where
 f0 : u.cell? ⟨b, o, none⟩ = some (.int .i64 f)
 f1 : u.cell? ⟨b, o + 1, none⟩ = some (.int .i64 pc)
 f2 : u.cell? ⟨b, o + 2, none⟩ = some (.int .i64 d)
 f3 : u.cell? ⟨b, o + 3, none⟩ = some (.slice ra nr rc)
theorem d0y (hfr : Fr7 a (.pointer (some ⟨B, 0, none⟩)) (.pointer (some ⟨B + 1, 0, none⟩)) (.int .i64 n)) (h6 : a.tmps.getD 6 undef = .int .i64 m) (hlt : m < n) (hS : S7 wr B ca nf cc mn (some ⟨fb, foff, none⟩) n fc ta nt tc oa no oc st en er lk ln ls) (hF : F7b4 wr fb (foff + m * 4) f pc d ra nr rc) (hv1 : wr.alloc (.cells #[.int .i64 f, .int .i64 pc, .int .i64 d, .slice ra nr rc] 50) = v1) (h8 : Reg8 B wr.heap.size (.int .i64 n) (.int .i64 m) v1 true) (hret : ∀ a' w', a'.defers = [] → a'.tmps.getD 4 undef = .bool false → Below v1.heap.size v1 w' → K .ret a' w') :
  Code.wp Tryz.prog (a5u ((Tryz.f7.body.bind (a3l 0)).getD .skip)) K a wr := by
 obtain ⟨x, hx, hk⟩ := hfr.lit
 rw [(hk 6).trans h6] at hx
 subst hx
 clear hk h6 hfr
 conv => arg 2; whnf
 obtain ⟨_, _, s0, _⟩ := hS
 obtain ⟨_, _, _, _⟩ := hF
 replace hret : Hid _ := hret
 replace h8 : Hid _ := h8
 go_wp2
 refine h8.out _ _ ⟨rfl, rfl, rfl, rfl, rfl⟩ rfl rfl ?_
 intro a' w' hf' g6 g7 g104 hb
 obtain ⟨x', hx, hk⟩ := hf'.lit
 rw [(hk 6).trans g6, (hk 7).trans g7, (hk 104).trans g104] at hx
 subst hx
 clear hk g6 g7 g104 hf'
 go_wp2
 exact hret.out _ _ rfl rfl hb
theorem a2v {W : World} {i : Nat} {c : Array Value} {t : TypeId} {z : Nat × Nat} (h : W.heap[B]? = some (.cells c t z)) (hv : c[i]? = some v) : W.cell? ⟨B, i, none⟩ = some v := by
 simp [World.cell?, h, hv]
theorem a3h (w : World) (o : Obj) : (w.alloc o).heap[w.heap.size]? = some o := by
 show (w.heap.push o)[w.heap.size]? = some o
 simp
theorem r1_0 (hfr : Fr7 a (.pointer (some ⟨B, 0, none⟩)) (.pointer (some ⟨B + 1, 0, none⟩)) (.int .i64 n)) (h6 : a.tmps.getD 6 undef = .int .i64 0) (hlt : 0 < n) (hn : n ≤ 40) (hS : ∀ u, Below wr.heap.size wr u → S7 u B ca nf cc mn (some ⟨fb, foff, none⟩) n fc ta nt tc oa no oc st en er lk ln ls) (hF : F7b4 wr fb (foff) f pc d ra nr rc) (hv1 : wr.alloc (.cells #[.int .i64 f, .int .i64 pc, .int .i64 d, .slice ra nr rc] 50) = v1) (h8 : Reg8 B wr.heap.size (.int .i64 n) (.int .i64 0) v1 false) (hw : decide (d < 0) = true ∧ R = true ∨ decide (d < 0) = false ∧ (decide (1 ≤ d) = true ∧ R = true ∨ decide (1 ≤ d) = false ∧ R = false)) (hret : R = true → ∀ a' w', a'.defers = [] → a'.tmps.getD 4 undef = .bool false → Below v1.heap.size v1 w' → K .ret a' w') (hnext : R = false → ∀ a' w', Fr7 a' (.pointer (some ⟨B, 0, none⟩)) (.pointer (some ⟨B + 1, 0, none⟩)) (.int .i64 n) → a'.tmps.getD 6 undef = .int .i64 1 → Below v1.heap.size v1 w' → K .normal a' w') :
  Code.wp Tryz.prog (a5u ((Tryz.f7.body.bind (a3l 0)).getD .skip)) K a wr := by
 have E1 : Below wr.heap.size wr v1 := by rw [← hv1]; exact (Below.refl _ _).alloc (Nat.le_refl _) _
 have gD : ∀ u, Below v1.heap.size v1 u → F7 u wr.heap.size f pc d ra nr rc := fun u hu => by
  have g : u.heap[wr.heap.size]? = some (.cells #[.int .i64 f, .int .i64 pc, .int .i64 d, .slice ra nr rc] 50) := by
   refine (hu.block _ ?_).trans ?_
   ·rw [← hv1]; simp
   ·rw [← hv1]; exact a3h _ _
  exact ⟨a2v g rfl, a2v g rfl, a2v g rfl, a2v g rfl⟩
 obtain ⟨x, hx, hk⟩ := hfr.lit
 rw [(hk 6).trans h6] at hx
 subst hx
 clear hk h6 hfr
 conv => arg 2; whnf
 obtain ⟨_, _, s0, _⟩ := hS _ (Below.refl _ _)
 obtain ⟨_, _, _, _⟩ := hF
 replace hret : Hid _ := hret
 replace hnext : Hid _ := hnext
 replace h8 : Hid _ := h8
 replace hS : Hid _ := hS
 replace gD : Hid _ := gD
 replace E1 : Hid _ := E1
 replace hw : Hid _ := hw
 go_wp2
 refine h8.out _ _ ⟨rfl, rfl, rfl, rfl, rfl⟩ rfl rfl ?_
 intro a' w' hf' g6 g7 g104 hb
 obtain ⟨x', hx, hk⟩ := hf'.lit
 rw [(hk 6).trans g6, (hk 7).trans g7, (hk 104).trans g104] at hx
 subst hx
 clear hk g6 g7 g104 hf' s0 hv1
 obtain ⟨_, _, s0, _⟩ := hS.out _ (E1.out.trans (hb.mono E1.out.size))
 obtain ⟨_, _, f2, _⟩ := gD.out w' hb
 rcases hw.out with ⟨d1, rfl⟩ | ⟨d1, ⟨d2, rfl⟩ | ⟨d2, rfl⟩⟩
 all_goals
  go_wp2
  first | exact hret.out (by simp) _ _ rfl rfl hb | exact hnext.out (by simp) _ _ ⟨rfl, rfl, rfl, rfl, rfl⟩ rfl hb
theorem r1_S {ra1 : Option Addr} {nr1 rc1 : Nat} (hfr : Fr7 a (.pointer (some ⟨B, 0, none⟩)) (.pointer (some ⟨B + 1, 0, none⟩)) (.int .i64 n)) (h6 : a.tmps.getD 6 undef = .int .i64 ((m : Int) + 1)) (hlt : m + 1 < n) (hn : n ≤ 40) (hS : ∀ u, Below wr.heap.size wr u → S7 u B ca nf cc mn (some ⟨fb, foff, none⟩) n fc ta nt tc oa no oc st en er lk ln ls) (hF : F7b4 wr fb (foff + (m + 1) * 4) f pc d ra nr rc) (hP : ∀ u, Below wr.heap.size wr u → u.cell? ⟨fb, foff + m * 4 + 3, none⟩ = some (.slice ra1 nr1 rc1)) (hv1 : wr.alloc (.cells #[.int .i64 f, .int .i64 pc, .int .i64 d, .slice ra nr rc] 50) = v1) (h8 : Reg8 B wr.heap.size (.int .i64 n) (.int .i64 ((m : Int) + 1)) v1 false) (hw : decide (d < 0) = true ∧ R = true ∨ decide (d < 0) = false ∧ (decide ((nr1 : Int) ≤ d) = true ∧ R = true ∨ decide ((nr1 : Int) ≤ d) = false ∧ R = false)) (hret : R = true → ∀ a' w', a'.defers = [] → a'.tmps.getD 4 undef = .bool false → Below v1.heap.size v1 w' → K .ret a' w') (hnext : R = false → ∀ a' w', Fr7 a' (.pointer (some ⟨B, 0, none⟩)) (.pointer (some ⟨B + 1, 0, none⟩)) (.int .i64 n) → a'.tmps.getD 6 undef = .int .i64 ((m : Int) + 1 + 1) → Below v1.heap.size v1 w' → K .normal a' w') :
  Code.wp Tryz.prog (a5u ((Tryz.f7.body.bind (a3l 0)).getD .skip)) K a wr := by
 have E1 : Below wr.heap.size wr v1 := by rw [← hv1]; exact (Below.refl _ _).alloc (Nat.le_refl _) _
 have gD : ∀ u, Below v1.heap.size v1 u → F7 u wr.heap.size f pc d ra nr rc := fun u hu => by
  have g : u.heap[wr.heap.size]? = some (.cells #[.int .i64 f, .int .i64 pc, .int .i64 d, .slice ra nr rc] 50) := by
   refine (hu.block _ ?_).trans ?_
   ·rw [← hv1]; simp
   ·rw [← hv1]; exact a3h _ _
  exact ⟨a2v g rfl, a2v g rfl, a2v g rfl, a2v g rfl⟩
 obtain ⟨x, hx, hk⟩ := hfr.lit
 rw [(hk 6).trans h6] at hx
 subst hx
 clear hk h6 hfr
 conv => arg 2; whnf
 obtain ⟨_, _, s0, _⟩ := hS _ (Below.refl _ _)
 obtain ⟨_, _, _, _⟩ := hF
 replace hret : Hid _ := hret
 replace hnext : Hid _ := hnext
 replace h8 : Hid _ := h8
 replace hS : Hid _ := hS
 replace gD : Hid _ := gD
 replace E1 : Hid _ := E1
 replace hw : Hid _ := hw
 replace hP : Hid _ := hP
 go_wp2
 refine h8.out _ _ ⟨rfl, rfl, rfl, rfl, rfl⟩ rfl rfl ?_
 intro a' w' hf' g6 g7 g104 hb
 obtain ⟨x', hx, hk⟩ := hf'.lit
 rw [(hk 6).trans g6, (hk 7).trans g7, (hk 104).trans g104] at hx
 subst hx
 clear hk g6 g7 g104 hf' s0 hv1
 obtain ⟨_, _, s0, _⟩ := hS.out _ (E1.out.trans (hb.mono E1.out.size))
 obtain ⟨_, _, f2, _⟩ := gD.out w' hb
 have p3 := hP.out w' (E1.out.trans (hb.mono E1.out.size))
 have hlt' : m < n := by omega
 rcases hw.out with ⟨d1, rfl⟩ | ⟨d1, ⟨d2, rfl⟩ | ⟨d2, rfl⟩⟩
 all_goals
  go_wp2
  first | exact hret.out (by simp) _ _ rfl rfl hb | exact hnext.out (by simp) _ _ ⟨rfl, rfl, rfl, rfl, rfl⟩ rfl hb
theorem d0z (hfr : Fr7 a (.pointer (some ⟨B, 0, none⟩)) (.pointer (some ⟨B + 1, 0, none⟩)) (.int .i64 n)) (h6 : a.tmps.getD 6 undef = .int .i64 n) (hK : ∀ a', Fr7 a' (.pointer (some ⟨B, 0, none⟩)) (.pointer (some ⟨B + 1, 0, none⟩)) (.int .i64 n) → K (.exit 0) a' wr) :
  Code.wp Tryz.prog (a5u ((Tryz.f7.body.bind (a3l 0)).getD .skip)) K a wr := by
 obtain ⟨x, hx, hk⟩ := hfr.lit
 rw [(hk 6).trans h6] at hx
 subst hx
 clear hk h6 hfr
 conv => arg 2; whnf
 replace hK : Hid _ := hK
 go_wp2
 exact hK.out _ ⟨rfl, rfl, rfl, rfl, rfl⟩
theorem d1a {tb toff : Nat} {ka va : Option Addr} {kl kc vl vc : Nat} (hfr : Fr7 a (.pointer (some ⟨B, 0, none⟩)) (.pointer (some ⟨B + 1, 0, none⟩)) p5) (h9 : a.tmps.getD 9 undef = .int .i64 m) (hlt : m < nt) (hn : nt ≤ 200) (hS0 : ∀ u, Below wr.heap.size wr u → S7 u B ca nf cc mn fa n1 fc (some ⟨tb, toff, none⟩) nt tc oa no oc st en er lk ln ls) (t0 : wr.cell? ⟨tb, toff + m * 2, none⟩ = some (.slice ka kl kc)) (t1 : wr.cell? ⟨tb, toff + m * 2 + 1, none⟩ = some (.slice va vl vc)) (hv1 : wr.alloc (.cells #[.slice ka kl kc, .slice va vl vc] 57) = v1) (q22 : ∀ u, Below v1.heap.size v1 u → Calls Tryz.prog 22 #[.agg #[.slice ka kl kc, .slice va vl vc]] u fun e w' => e = .returned (.bool B1) ∧ Below u.heap.size u w') (qks : ∀ u, Below v1.heap.size v1 u → Calls Tryz.prog 21 #[.agg #[.slice ca nf cc, .int .i64 mn], .agg #[.slice fa n1 fc, .slice (some ⟨tb, toff, none⟩) nt tc, .slice oa no oc, .int .i64 st, .int .i64 en, .int .i64 er, .int .i64 lk, .int .i64 ln, .string ls], .slice ka kl kc] u fun e w' => e = .returned (.bool B2) ∧ Below u.heap.size u w') (qvs : ∀ u, Below v1.heap.size v1 u → Calls Tryz.prog 21 #[.agg #[.slice ca nf cc, .int .i64 mn], .agg #[.slice fa n1 fc, .slice (some ⟨tb, toff, none⟩) nt tc, .slice oa no oc, .int .i64 st, .int .i64 en, .int .i64 er, .int .i64 lk, .int .i64 ln, .string ls], .slice va vl vc] u fun e w' => e = .returned (.bool B3) ∧ Below u.heap.size u w') (hret : (B1 && B2 && B3) = false → ∀ a' w', a'.defers = [] → a'.tmps.getD 4 undef = .bool false → Below wr.heap.size wr w' → K .ret a' w') (hnext : (B1 && B2 && B3) = true → ∀ a' w', Fr7 a' (.pointer (some ⟨B, 0, none⟩)) (.pointer (some ⟨B + 1, 0, none⟩)) p5 → a'.tmps.getD 9 undef = .int .i64 ((m : Int) + 1) → Below wr.heap.size wr w' → K .normal a' w') :
  Code.wp Tryz.prog (a5u ((Tryz.f7.body.bind (a3l 2)).getD .skip)) K a wr := by
 have E1 : Below wr.heap.size wr v1 := by rw [← hv1]; exact (Below.refl _ _).alloc (Nat.le_refl _) _
 have hS : ∀ u, Below v1.heap.size v1 u → S7 u B ca nf cc mn fa n1 fc (some ⟨tb, toff, none⟩) nt tc oa no oc st en er lk ln ls ∧ u.cell? ⟨wr.heap.size, 0, none⟩ = some (.slice ka kl kc) ∧ u.cell? ⟨wr.heap.size, 1, none⟩ = some (.slice va vl vc) := fun u hu => by
  have g : u.heap[wr.heap.size]? = some (.cells #[.slice ka kl kc, .slice va vl vc] 57) := by
   refine (hu.block _ ?_).trans ?_
   ·rw [← hv1]; simp
   ·rw [← hv1]; exact a3h _ _
  exact ⟨hS0 u (E1.trans (hu.mono E1.size)), a2v g rfl, a2v g rfl⟩
 obtain ⟨x, hx, hk⟩ := hfr.lit
 rw [(hk 9).trans h9] at hx
 subst hx
 clear hk h9 hfr
 conv => arg 2; whnf
 obtain ⟨_, _, _, s1, _⟩ := hS0 _ (Below.refl _ _)
 obtain ⟨_, c0, c1⟩ := hS _ (Below.refl _ _)
 clear hS0
 replace hret : Hid _ := hret
 replace hnext : Hid _ := hnext
 replace q22 : Hid _ := q22
 replace hS : Hid _ := hS
 replace E1 : Hid _ := E1
 replace qks : Hid _ := qks
 replace qvs : Hid _ := qvs
 go_wp2_with (go_at_call 22; refine Hid.out ?_)
 refine Lib.hid ?_
 refine (q22.out _ (Below.refl _ _)).mono ?_
 rintro e u1 ⟨rfl, hb1⟩
 clear hv1 c0 c1 t0 t1 s1
 obtain ⟨⟨_, _, _, _, _, _, _, _, _, _, _⟩, _, _⟩ := hS.out _ hb1
 cases B1
 ·go_wp2
  first | exact hret.out (by simp) _ _ rfl rfl (E1.out.trans (hb1.mono E1.out.size)) | exact hnext.out (by simp) _ _ ⟨rfl, rfl, rfl, rfl, rfl⟩ rfl (E1.out.trans (hb1.mono E1.out.size))
 go_wp2_with (go_at_call 21; refine Hid.out ?_)
 refine Lib.hid ?_
 refine (qks.out _ hb1).mono ?_
 rintro e u2 ⟨rfl, hb2⟩
 obtain ⟨⟨_, _, _, _, _, _, _, _, _, _, _⟩, _, _⟩ := hS.out _ (hb1.trans (hb2.mono hb1.size))
 cases B2
 ·go_wp2
  first | exact hret.out (by simp) _ _ rfl rfl (E1.out.trans ((hb1.trans (hb2.mono hb1.size)).mono E1.out.size)) | exact hnext.out (by simp) _ _ ⟨rfl, rfl, rfl, rfl, rfl⟩ rfl (E1.out.trans ((hb1.trans (hb2.mono hb1.size)).mono E1.out.size))
 go_wp2_with (go_at_call 21; refine Hid.out ?_)
 refine Lib.hid ?_
 refine (qvs.out _ (hb1.trans (hb2.mono hb1.size))).mono ?_
 rintro e u3 ⟨rfl, hb3⟩
 cases B3
 all_goals
  go_wp2
  first | exact hret.out (by simp) _ _ rfl rfl (E1.out.trans (((hb1.trans (hb2.mono hb1.size)).trans (hb3.mono (hb1.trans (hb2.mono hb1.size)).size)).mono E1.out.size)) | exact hnext.out (by simp) _ _ ⟨rfl, rfl, rfl, rfl, rfl⟩ rfl (E1.out.trans (((hb1.trans (hb2.mono hb1.size)).trans (hb3.mono (hb1.trans (hb2.mono hb1.size)).size)).mono E1.out.size))
theorem d1b {m : Nat} {v1 : World} (hfr : Fr7 a (.pointer (some ⟨B, 0, none⟩)) (.pointer (some ⟨B + 1, 0, none⟩)) p5) (h9 : a.tmps.getD 9 undef = .int .i64 nt) (hS : S7 wr B ca nf cc mn fa n1 fc ta nt tc oa no oc st en er lk ln ls) (hK : ∀ a', Fr7 a' (.pointer (some ⟨B, 0, none⟩)) (.pointer (some ⟨B + 1, 0, none⟩)) p5 → K (.exit 2) a' wr) :
  Code.wp Tryz.prog (a5u ((Tryz.f7.body.bind (a3l 2)).getD .skip)) K a wr := by
 obtain ⟨x, hx, hk⟩ := hfr.lit
 rw [(hk 9).trans h9] at hx
 subst hx
 clear hk h9 hfr
 conv => arg 2; whnf
 obtain ⟨_, _, s0, s1, s2, _⟩ := hS
 replace hK : Hid _ := hK
 go_wp2
 exact hK.out _ ⟨rfl, rfl, rfl, rfl, rfl⟩
theorem c7m {v1 : World} (hfr : Fr7 a (.pointer (some ⟨B, 0, none⟩)) (.pointer (some ⟨B + 1, 0, none⟩)) p5) (h9 : a.tmps.getD 11 undef = .int .i64 m) (hlt : m < no) (hn : no ≤ 60000) (hS0 : S7 wr B ca nf cc mn fa n1 fc ta nt tc (some ⟨ob, ooff, none⟩) no oc st en er lk ln ls) (t0 : wr.cell? ⟨ob, ooff + m, none⟩ = some (.string s)) (d : ¬ s.size ≤ 300) (hK : ∀ a' w', a'.defers = [] → a'.tmps.getD 4 undef = .bool false → Below wr.heap.size wr w' → K .ret a' w') :
  Code.wp Tryz.prog (a5u ((Tryz.f7.body.bind (a3l 4)).getD .skip)) K a wr := by
 obtain ⟨x, hx, hk⟩ := hfr.lit
 rw [(hk 11).trans h9] at hx
 subst hx
 clear hk h9 hfr
 conv => arg 2; whnf
 obtain ⟨_, _, _, _, s2, _⟩ := hS0
 replace hK : Hid _ := hK
 go_wp2
 exact hK.out _ _ rfl rfl (Below.refl _ _)
theorem d3g {v1 : World} (hfr : Fr7 a (.pointer (some ⟨B, 0, none⟩)) (.pointer (some ⟨B + 1, 0, none⟩)) p5) (h9 : a.tmps.getD 11 undef = .int .i64 m) (hlt : m < no) (hn : no ≤ 60000) (hS0 : S7 wr B ca nf cc mn fa n1 fc ta nt tc (some ⟨ob, ooff, none⟩) no oc st en er lk ln ls) (t0 : wr.cell? ⟨ob, ooff + m, none⟩ = some (.string s)) (d : s.size ≤ 300) (hK : ∀ a' w', Fr7 a' (.pointer (some ⟨B, 0, none⟩)) (.pointer (some ⟨B + 1, 0, none⟩)) p5 → a'.tmps.getD 11 undef = .int .i64 ((m : Int) + 1) → Below wr.heap.size wr w' → K .normal a' w') :
  Code.wp Tryz.prog (a5u ((Tryz.f7.body.bind (a3l 4)).getD .skip)) K a wr := by
 obtain ⟨x, hx, hk⟩ := hfr.lit
 rw [(hk 11).trans h9] at hx
 subst hx
 clear hk h9 hfr
 conv => arg 2; whnf
 obtain ⟨_, _, _, _, s2, _⟩ := hS0
 replace hK : Hid _ := hK
 go_wp2
 exact hK.out _ _ ⟨rfl, rfl, rfl, rfl, rfl⟩ rfl (Below.refl _ _)
theorem d1c {m : Nat} {v1 : World} (hfr : Fr7 a (.pointer (some ⟨B, 0, none⟩)) (.pointer (some ⟨B + 1, 0, none⟩)) p5) (h9 : a.tmps.getD 11 undef = .int .i64 no) (hS : S7 wr B ca nf cc mn fa n1 fc ta nt tc oa no oc st en er lk ln ls) (hK : ∀ a', Fr7 a' (.pointer (some ⟨B, 0, none⟩)) (.pointer (some ⟨B + 1, 0, none⟩)) p5 → K (.exit 4) a' wr) :
  Code.wp Tryz.prog (a5u ((Tryz.f7.body.bind (a3l 4)).getD .skip)) K a wr := by
 obtain ⟨x, hx, hk⟩ := hfr.lit
 rw [(hk 11).trans h9] at hx
 subst hx
 clear hk h9 hfr
 conv => arg 2; whnf
 obtain ⟨_, _, s0, s1, s2, _⟩ := hS
 replace hK : Hid _ := hK
 go_wp2
 exact hK.out _ ⟨rfl, rfl, rfl, rfl, rfl⟩
theorem d1d (q23 : ∀ u, Below wr.heap.size wr u → Calls Tryz.prog 23 #[.agg #[.int .i64 lk, .int .i64 ln, .string ls], .agg #[.int .i64 0, .int .i64 0, .string ⟨#[]⟩]] u fun e w' => e = .returned (.bool B2) ∧ Below u.heap.size u w') (hw : (en = 0 ∧ (er == 0) = false ∧ R = false ∨ en = 0 ∧ er = 0 ∧ R = B2) ∨ (en = 1 ∧ (er == 0) = false ∧ R = false ∨ en = 2 ∧ B2 = false ∧ R = false) ∨ (en = 2 ∧ B2 = true ∧ R = true ∧ (er = 1 ∨ er = 3 ∨ er = 4 ∨ er = 7) ∨ en = 2 ∧ B2 = true ∧ R = false ∧ (er == 1) = false ∧ (er == 3) = false ∧ (er == 4) = false ∧ (er == 7) = false) ∨ (en == 0) = false ∧ (en == 1) = false ∧ (en == 2) = false ∧ R = false) (hfr : Fr7 a (.pointer (some ⟨B, 0, none⟩)) (.pointer (some ⟨B + 1, 0, none⟩)) p5) (hS : ∀ u, Below wr.heap.size wr u → S7 u B ca nf cc mn fa n1 fc ta nt tc oa no oc st en er lk ln ls) (hK : ∀ a' w', a'.defers = [] → a'.tmps.getD 4 undef = .bool R → Below wr.heap.size wr w' → K .ret a' w') :
  Code.wp Tryz.prog ((Tryz.f7.body.bind (a6n 26)).getD .skip) K a wr := by
 obtain ⟨x, hx, hk⟩ := hfr.lit
 subst hx
 clear hk hfr
 rcases hw with (⟨rfl, e0, rfl⟩ | ⟨rfl, rfl, rfl⟩) | (⟨rfl, e0, rfl⟩ | ⟨rfl, rfl, rfl⟩) | (⟨rfl, rfl, rfl, rfl | rfl | rfl | rfl⟩ | ⟨rfl, rfl, rfl, e1, e3, e4, e7⟩) | ⟨h0, h1, h2, rfl⟩
 all_goals
  conv => arg 2; whnf
  obtain ⟨_, _, _, _, _, _, _, _, _, _, _⟩ := hS _ (Below.refl _ _)
  replace hK : Hid _ := hK
  replace hS : Hid _ := hS
  replace q23 : Hid _ := q23
  go_wp2_with (go_at_call 23; refine Hid.out ?_)
  refine Lib.hid ?_
  refine (q23.out _ (Below.refl _ _)).mono ?_
  rintro e u1 ⟨rfl, hb1⟩
  obtain ⟨_, _, _, _, _, _, _, _, _, _, _⟩ := hS.out _ hb1
  go_wp2
  exact hK.out _ _ rfl rfl hb1
theorem te_1 (q23 : ∀ u, Below wr.heap.size wr u → Calls Tryz.prog 23 #[.agg #[.int .i64 lk, .int .i64 ln, .string ls], .agg #[.int .i64 0, .int .i64 0, .string ⟨#[]⟩]] u fun e w' => e = .returned (.bool B2) ∧ Below u.heap.size u w') (q24 : ∀ u, Below wr.heap.size wr u → Calls Tryz.prog 24 #[.agg #[.slice ca nf cc, .int .i64 mn], .agg #[.slice fa n1 fc, .slice ta nt tc, .slice oa no oc, .int .i64 st, .int .i64 1, .int .i64 0, .int .i64 lk, .int .i64 ln, .string ls], .agg #[.int .i64 lk, .int .i64 ln, .string ls]] u fun e w' => e = .returned (.bool B1) ∧ Below u.heap.size u w') (hfr : Fr7 a (.pointer (some ⟨B, 0, none⟩)) (.pointer (some ⟨B + 1, 0, none⟩)) p5) (hS : ∀ u, Below wr.heap.size wr u → S7 u B ca nf cc mn fa n1 fc ta nt tc oa no oc st 1 0 lk ln ls) (hK : ∀ a' w', a'.defers = [] → a'.tmps.getD 4 undef = .bool B1 → Below wr.heap.size wr w' → K .ret a' w') :
  Code.wp Tryz.prog ((Tryz.f7.body.bind (a6n 26)).getD .skip) K a wr := by
 obtain ⟨x, hx, hk⟩ := hfr.lit
 subst hx
 clear hk hfr
 conv => arg 2; whnf
 obtain ⟨_, _, _, _, _, _, _, _, _, _, _⟩ := hS _ (Below.refl _ _)
 replace hK : Hid _ := hK
 replace hS : Hid _ := hS
 replace q23 : Hid _ := q23
 replace q24 : Hid _ := q24
 go_wp2_with (go_at_call 23; refine Hid.out ?_)
 refine Lib.hid ?_
 refine (q23.out _ (Below.refl _ _)).mono ?_
 rintro e u1 ⟨rfl, hb1⟩
 obtain ⟨_, _, _, _, _, _, _, _, _, _, _⟩ := hS.out _ hb1
 go_wp2_with (go_at_call 24; refine Hid.out ?_)
 refine Lib.hid ?_
 refine (q24.out _ hb1).mono ?_
 rintro e u2 ⟨rfl, hb2⟩
 go_wp2
 exact hK.out _ _ rfl rfl (hb1.trans (hb2.mono hb1.size))
theorem d3h {b off j : Nat} {fca fia : Option Addr} {fcs fcc fis fic : Nat} {fp fr : Int} (hC : ∀ u, Below v1.heap.size v1 u → S7 u B (some ⟨b, off, none⟩) nf cc mn fa n1 fc ta nt tc oa no oc st en er lk ln ls ∧ F7 u D j pc d ra nr rc) (hF : ∀ u, Below v1.heap.size v1 u → F7b u b (off + j * 4) fp fr fca fcs fcc fia fis fic) (hj : j < nf) (d1 : decide ((j : Int) < 0) = false) (d2 : decide (nf ≤ j) = false) (h20 : ∀ u, Below v1.heap.size v1 u → Calls Tryz.prog 20 #[.agg #[.int .i64 fp, .int .i64 fr, .slice fca fcs fcc, .slice fia fis fic], .int .i64 pc] u fun e w' => e = .returned (.bool B1) ∧ Below u.heap.size u w') (h21 : ∀ u, Below v1.heap.size v1 u → Calls Tryz.prog 21 #[.agg #[.slice (some ⟨b, off, none⟩) nf cc, .int .i64 mn], .agg #[.slice fa n1 fc, .slice ta nt tc, .slice oa no oc, .int .i64 st, .int .i64 en, .int .i64 er, .int .i64 lk, .int .i64 ln, .string ls], .slice ra nr rc] u fun e w' => e = .returned (.bool B3) ∧ Below u.heap.size u w') : Reg8 B D p5 p6 v1 (!(B1 && ((nr : Int) == fr) && B3)) := by
 replace hC : Hid _ := hC
 replace hF : Hid _ := hF
 cases B1
 rotate_left
 cases d3 : ((nr : Int) == fr)
 rotate_left
 cases B3
 all_goals
  first | (have d4 : ((nr : Int) != fr) = true := by simp [bne, d3]) | (have d4 : ((nr : Int) != fr) = false := by simp [bne, d3]) | skip
  replace h20 : Hid _ := h20
  replace h21 : Hid _ := h21
  intro K a hfr h6 h7 hK
  obtain ⟨x, hx, hk⟩ := hfr.lit
  rw [(hk 6).trans h6, (hk 7).trans h7] at hx
  subst hx
  clear hk h6 h7 hfr
  conv => arg 2; whnf
  replace hK : Hid _ := hK
  refine a9h (Below v1.heap.size v1) (by kernel_rfl) (by kernel_rfl) (Below.refl _ _).drew ?_
  repeat (first
   | go_big_quiet_skip
   | (
    apply a6o
    ·kernel_rfl
    ·intro u hu
     obtain ⟨⟨_, _, _, _, _, _, _, _, _, _, _⟩, ⟨_, _, _, _⟩⟩ := hC.out u hu; obtain ⟨_, _, _, _⟩ := hF.out u hu
     go_simp
     first | (go_at_call 20; refine (h20.out u hu).mono ?_; rintro e w3 ⟨rfl, hb3⟩; exact ⟨rfl, hu.trans (hb3.mono hu.size)⟩) | (go_at_call 21; refine (h21.out u hu).mono ?_; rintro e w3 ⟨rfl, hb3⟩; exact ⟨rfl, hu.trans (hb3.mono hu.size)⟩) | with_reducible rfl | skip
    simp only [Act.put, List.setIfInBounds_toArray, List.set_cons_zero, List.set_cons_succ]))
  refine wpQuiet_nil (fun w2 hb2 => ?_)
  exact hK.out _ _ ⟨rfl, rfl, rfl, rfl, rfl⟩ rfl rfl rfl hb2
end Go.Proofs.YthpgbienakcbeaaGreatDoor
