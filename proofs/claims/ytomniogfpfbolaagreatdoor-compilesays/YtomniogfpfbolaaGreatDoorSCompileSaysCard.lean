/- Proved: for every text CompileSays returns true, and its argument reads afterwards as it read before. Its conditions: the seven listed variables hold what the card ties to the program's text. -/
import Derived.Test.YtomniogfpfbolaaGreatDoorRows
import Derived.Test.YtomniogfpfbolaaGreatDoorTie
import Derived.Test.YtomniogfpfbolaaGreatDoorCards
import Derived.Test.YtomniogfpfbolaaGreatDoorS54
import Derived.LaidMore
import Derived.Stop.LaidErr
import Derived.Lib.SmallJoins
namespace Go.Proofs.YtomniogfpfbolaaGreatDoor
open Go.ChangeShapes Go.WideShapes Go.ChangeAt Go.WideMaps Go.WideElems Go.RowKit Go.Joins Go.ChangeMaps

namespace V
theorem Vl.ext' {x y : Vl} (hk : x.k = y.k) (hn : x.n = y.n) (hs : x.s.toList = y.s.toList) : x = y := by
  obtain ⟨k, n, s, _, _, _⟩ := x
  obtain ⟨k', n', s', _, _, _⟩ := y
  simp only at hk hn hs
  subst hk hn
  have : s = s' := WideShapes.bytes_inj (by rwa [ByteArray.toList_eq, ByteArray.toList_eq] at hs)
  subst this
  rfl

def vlEq : DecidableEq Vl := fun x y =>
  if h : x.k = y.k ∧ x.n = y.n ∧ x.s.toList = y.s.toList then .isTrue (Vl.ext' h.1 h.2.1 h.2.2) else .isFalse (fun e => h (by subst e; exact ⟨rfl, rfl, rfl⟩))

end V
theorem d7g : ownKnob Tryz.prog.godebug = none := by kernel_rfl
theorem c5v : ("*" ++ "errors.errorString") = "*errors.errorString" := by decide
theorem d4c (u : TypeId) (h : Tryz.prog.typeName? 3 u = some "*errors.errorString") : u = 231 :=
  typeName_ptr_named (nm := "errors.errorString") (by rw [c5v]; kernel_rfl) (by kernel_rfl) (by decide) u (by rw [c5v]; exact h)
theorem c5w {W : World} (h : laidMetH Tryz.prog Rows.compileSaysRow.laid W) : laidMet Tryz.prog [("math/bits.deBruijn32tab", Rows.laid_math_bits_deBruijn32tab), ("math/bits.deBruijn64tab", Rows.laid_math_bits_deBruijn64tab), ("internal/strconv.uint64pow10", Rows.laid_internal_strconv_uint64pow10), ("strconv.ErrRange", Rows.laid_strconv_ErrRange), ("strconv.ErrSyntax", Rows.laid_strconv_ErrSyntax), ("unicode.White_Space", Rows.laid_unicode_White_Space), ("strings.asciiSpace", Rows.laid_strings_asciiSpace)] W := by
  rw [MakeChecks.laidMetH_plain _ _ _ (by kernel_rfl)] at h
  exact h
theorem d7h {W : World} (h : laidMetH Tryz.prog Rows.compileSaysRow.laid W) : ErrV W := by
  have h2 := laidMet.tail (laidMet.tail (laidMet.tail (c5w h)))
  have hg : Tryz.prog.globalNamed "strconv.ErrRange" = some 3 := by kernel_rfl
  obtain ⟨a, s, hv, _, _, _⟩ := laid_sentinel (g := 3) (ti := 165) (tp := 231) (te := 233) (ts := 9) h2 hg (by kernel_rfl) Tryz.underlying165 d4c Tryz.underlying231 Tryz.underlying233 rfl rfl Tryz.underlying9 (by kernel_rfl) (by kernel_rfl)
  exact ⟨_, World.var?_cell hg hv 0, .inr ⟨_, _, rfl⟩⟩
theorem d7i {W : World} (h : laidMetH Tryz.prog Rows.compileSaysRow.laid W) : a5b W := by
  have h2 := laidMet.tail (laidMet.tail (laidMet.tail (laidMet.tail (laidMet.tail (laidMet.tail (c5w h))))))
  have e : (Rows.laid_strings_asciiSpace : DataW Unit) = Lib.tabData .u8 Lib.asciiSpaceTab := by kernel_rfl
  rw [e] at h2
  exact Lib.tabIs_of_head (g := 0) (by kernel_rfl) (by kernel_rfl) Tryz.underlying170 Tryz.underlying5 (by kernel_rfl) (by kernel_rfl) h2
/-- The door's own heap meets the condition. -/
theorem d4d (os : Os) (args : Array Value) : laidMetH Tryz.prog Rows.compileSaysRow.laid ((World.doorLaid Tryz.prog 115 os).forCall (fun _ _ => 0) ⟨#[], args, []⟩).memory :=
  laidMetH_of_parts3 (fuel := 8) (laidMet_of_run' 8 (by kernel_rfl) (by kernel_rfl)) (by kernel_rfl) (by kernel_rfl)
set_option maxRecDepth 100000 in
theorem c5x (os : Os) (started : os.Started) (H : Type) (enc : TypeId × Value → H) :
    ReturnsInHanded {} Tryz.checked os 3 .any (fun w args => (Rows.compileSaysSpec.pre enc Tryz.prog Tryz.f3 [] false w args ∧ laidMetH Tryz.prog Rows.compileSaysRow.laid w) ∧ sizedMet enc Tryz.prog Tryz.f3 (OpenSpec.ofChange Rows.compileSaysSpec) false w args)
      (Rows.compileSaysSpec.post enc Tryz.prog Tryz.f3 false true false false) := by
  haveI : DecidableEq V.Vl := V.vlEq
  refine returnsInHanded_of_change_and (C := Tryz.checked) (X := fun w _ => laidMetH Tryz.prog Rows.compileSaysRow.laid w) (fun _ _ _ hh h => h.of_heap hh) d7g started (by kernel_rfl) Tryz.func3
    (ChangeSpec.witness_shaped (enc := enc) (C := Tryz.checked) (os := os) (X := fun w _ => laidMetH Tryz.prog Rows.compileSaysRow.laid w) false (World.doorLaid Tryz.prog 115 os) #[.string ⟨#[]⟩] 8 rfl (World.shaped_of_RefB (by kernel_rfl) (by kernel_rfl)) (by kernel_rfl) (by kernel_rfl) (by kernel_rfl) (d4d os _)) ?_
  intro W base args ds gs before hval0 hW _ _ hL _
  have hval : ∀ (j : Nat) t v, Tryz.f3.params[j]? = some t → args[j]? = some v → Value.okWide Tryz.prog W .any base t v := hval0
  have hW' := hW
  obtain ⟨p, q, hA0, hV, rfl, hfz, hnd⟩ := hW
  have hA : DataW.TrodAll enc Tryz.prog W 0 (fun _ => true) true Tryz.f3.params.toList args.toList ds p := hA0
  rw [Tryz.params3] at hA hval
  obtain ⟨v0, d0, rfl, rfl, h0⟩ := trodAll_one hA
  obtain ⟨rfl, rfl⟩ := trodVars_none hV
  obtain ⟨s0, rfl, rfl, rfl, ws⟩ := open_string Tryz.underlying9 (hval 0 9 v0 rfl rfl) h0
  clear hA0 hval0
  simp only [List.append_nil] at hW'
  refine (V.C.says_any s0 W (d7h hL) (d7i hL)).mono fun e W' ⟨he, hg⟩ => ?_
  subst he
  refine ⟨_, rfl, _, _, _, [], [], [], hW', ?_, ?_, rfl, hg.frame _, fun h => by cases h⟩
  · exact trodAll_mk1 (shut_bool Tryz.underlying4 _)
  · exact trodAll_mk1 (shut_string Tryz.underlying9 ws)
theorem d7j : Rows.CompileSaysSaid :=
  OpenClaim.holds_of_wide 3 Tryz.f3 rfl rfl rfl rfl rfl rfl rfl ⟨rfl, rfl, rfl, rfl, rfl⟩ rfl rfl rfl rfl rfl (by kernel_rfl) Tryz.func3 (by kernel_rfl)
    (of_decide_eq_true (by kernel_rfl)) (by unfold Func.isWrapper; first | (rw [if_pos (by decide +kernel)]; kernel_rfl) | (rw [if_neg (by decide +kernel)]; exact ⟨rfl, rfl⟩))
    (fun os started H enc _ => c5x os started H enc)
/-- The statement. -/
theorem says_holds : Rows.CompileSaysCardSaid :=
  Claim7.holds_tied_plain_at .later [] [.data, .data, .data, .sentinel, .sentinel, .listed, .data] true (true, "b12c72b672104b726ff193831a65a47392a3e5df7231064b2e4f28673d8ab52a") true
    d7j (fun _ h => by cases h) (by kernel_rfl) (fun _ h => by cases h) compileSays_row_tie rfl ⟨rfl, rfl⟩ (by kernel_rfl) rfl
    (fun f fn hf hfn => by
      obtain rfl : f = 3 := Option.some.inj ((show Tryz.prog.funcNamed "packtrail/packtraillaw.CompileSays" = some 3 by kernel_rfl).symm.trans hf) |>.symm
      obtain rfl : fn = Tryz.f3 := (Option.some.inj (Tryz.func3.symm.trans hfn)).symm
      exact ⟨by kernel_rfl, fun j t ht => by
        rw [Tryz.params3] at ht
        have hm : t ∈ [9] := by simpa using Array.mem_of_getElem? ht
        have hall : ([9].all fun u => !Tryz.prog.wantsStandIn u) = true := by kernel_rfl
        exact (show Tryz.prog.wantsStandIn t = false by simpa using List.all_eq_true.1 hall t hm)⟩)
    (by kernel_rfl)
#print axioms says_holds
end Go.Proofs.YtomniogfpfbolaaGreatDoor
