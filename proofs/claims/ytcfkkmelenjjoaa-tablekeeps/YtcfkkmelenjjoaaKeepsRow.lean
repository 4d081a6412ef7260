/- Proved: for every table, every two keys and every value TableKeeps returns true (what is set is got, all else is as it was, and keys stay in their order; where Set tells what is wrong it answers no keys), and the arguments read as before. No condition. -/
import Derived.Test.YtcfkkmelenjjoaaRows
import Derived.Test.YtcfkkmelenjjoaaOpen
import Derived.Test.YtcfkkmelenjjoaaKeeps2
import Derived.Test.YtcfkkmelenjjoaaKeeps3
import Derived.Test.YtcfkkmelenjjoaaKeeps4
namespace Go.Proofs.Ytcfkkmelenjjoaa
open Go.ChangeShapes Go.WideShapes Go.ChangeAt Go.WideMaps Go.WideElems Go.RowKit Go.Joins

theorem fine_of [DecidableEq Vl] {xs ys : List Vl} {k v : Vl} (h : mayT xs ys = true) (h1 : mayB k.k k.n k.s = true) (h2 : mayB v.k v.n v.s = true) (h3 : ¬ k.k = 0) : Fine k v (xs.zip ys) := by
  obtain ⟨hl, _, hx, hy, hn⟩ := mayT_parts h
  refine ⟨fun p hp => hx _ (List.of_mem_zip hp).1, fun p hp => hy _ (List.of_mem_zip hp).2, by rw [zip_keys hl]; exact hn, by simp [stB, h3, h1], h2⟩

theorem keeps_any [DecidableEq Vl] (ks vs : Value) (xs ys : List Vl) (k v o : Vl) (w : World) (hT : Tab w.heap.size w ks vs xs ys) :
    Calls Try.prog 5 #[.agg #[ks, vs], k.v, v.v, o.v] w fun e w' => e = .returned (.bool true) ∧ Below w.heap.size w w' := by
  by_cases hg : mayT xs ys = true ∧ mayB k.k k.n k.s = true ∧ mayB v.k v.n v.s = true
  · by_cases h3 : k.k = 0
    · exact keeps_err ks vs xs ys k v o w hT 3 (by unfold setT; rw [if_neg (by simpa using hg), if_pos h3]) (by decide)
    · by_cases hl : 100 < (setZ k v (xs.zip ys)).length
      · exact keeps_err ks vs xs ys k v o w hT 1 (by unfold setT; rw [if_neg (by simpa using hg), if_neg h3, if_pos hl]) (by decide)
      · have he : setT xs ys k v = (setZ k v (xs.zip ys), 0) := by unfold setT; rw [if_neg (by simpa using hg), if_neg h3, if_neg hl]
        have hF := fine_of hg.1 hg.2.1 hg.2.2 h3
        by_cases e1 : o.k = k.k
        · by_cases e2 : o.n = k.n
          · by_cases e3 : o.s.toList = k.s.toList
            · have : o = k := Vl.ext' e1 e2 e3
              subst this
              exact keeps_eq ks vs xs ys o v w hT hg.1 hF hl he
            · obtain ⟨ok, on, os, ow1, ow2, ow3⟩ := o
              dsimp only at e1 e2 e3
              subst e1
              subst e2
              exact keeps_ne3 ks vs xs ys k v w os ow1 ow2 ow3 e3 hT hg.1 hF hl he
          · obtain ⟨ok, on, os, ow1, ow2, ow3⟩ := o
            dsimp only at e1 e2
            subst e1
            exact keeps_ne2 ks vs xs ys k v w on os ow1 ow2 ow3 e2 hT hg.1 hF hl he
        · exact keeps_ne1 ks vs xs ys k v o w e1 hT hg.1 hF hl he
  · exact keeps_err ks vs xs ys k v o w hT 2 (by unfold setT; rw [if_pos hg]) (by decide)

set_option maxRecDepth 100000 in
theorem keeps_lifted (os : Os) (started : os.Started) (H : Type) (enc : TypeId × Value → H) :
    ReturnsInHanded {} Try.checked os 5 .any (Rows.tableKeepsSpec.pre6 enc Try.prog Try.f5 [] false) (Rows.tableKeepsSpec.post enc Try.prog Try.f5 false true false false) := by
  refine returnsInHanded_of_change (C := Try.checked) own started (by kernel_rfl) Try.func5
    (ChangeSpec.witness6 (enc := enc) (C := Try.checked) false ⟨#[], #[.agg #[.slice none 0 0, .slice none 0 0], .agg #[.int .i64 0, .int .i64 0, .string ⟨#[]⟩], .agg #[.int .i64 0, .int .i64 0, .string ⟨#[]⟩], .agg #[.int .i64 0, .int .i64 0, .string ⟨#[]⟩]], []⟩ 8 (by kernel_rfl) (by kernel_rfl) (by kernel_rfl) (by kernel_rfl)) ?_
  intro W base args ds gs before hval0 hW _ _
  have hval : ∀ (j : Nat) t v, Try.f5.params[j]? = some t → args[j]? = some v → Value.okWide Try.prog W .any base t v := hval0
  have hW' := hW
  obtain ⟨p, q, hA0, hV, rfl, hfz, hnd⟩ := hW
  have hA : DataW.TrodAll enc Try.prog W 0 (fun _ => true) true Try.f5.params.toList args.toList ds p := hA0
  rw [Try.params5] at hA hval
  obtain ⟨v0, vs0, d0, ds0, p0, q0, hargs, rfl, rfl, h0, r0⟩ := trodAll_cons hA
  obtain ⟨v1, vs1, d1, ds1, p1, q1, rfl, rfl, rfl, h1, r1⟩ := trodAll_cons r0
  obtain ⟨v2, vs2, d2, ds2, p2, q2, rfl, rfl, rfl, h2, r2⟩ := trodAll_cons r1
  obtain ⟨v3, vs3, d3, ds3, p3, q3, rfl, rfl, rfl, h3, r3⟩ := trodAll_cons r2
  obtain ⟨rfl, rfl, rfl⟩ := trodAll_nil r3
  obtain rfl : args = #[v0, v1, v2, v3] := by cases args; simp_all
  obtain ⟨rfl, rfl⟩ := trodVars_none hV
  obtain ⟨ks, vs, xs, ys, rfl, hT⟩ := open_tab (hval 0 24 v0 rfl rfl) h0
  obtain ⟨k, rfl⟩ := open_val (hval 1 26 v1 rfl rfl) h1
  obtain ⟨v, rfl⟩ := open_val (hval 2 26 v2 rfl rfl) h2
  obtain ⟨o, rfl⟩ := open_val (hval 3 26 v3 rfl rfl) h3
  clear hA0 hval0
  have hlt : ∀ x ∈ p0 ++ (p1 ++ (p2 ++ (p3 ++ []))), x.block < W.heap.size := fun x hx => hW'.lt x (List.mem_append.2 (.inl hx))
  haveI : DecidableEq Vl := vlEq
  refine (keeps_any ks vs xs ys k v o W hT).mono fun e W' ⟨he, hg⟩ => ?_
  subst he
  refine ⟨_, rfl, _, _, _, [], p0 ++ (p1 ++ (p2 ++ (p3 ++ []))), [], hW', ?_, ?_, rfl, hg.frame _, fun h => by cases h⟩
  · exact trodAll_mk1 (shut_bool Try.underlying4 _)
  · exact trodAll_cons_mk (trod24 h0 hg (fun x hx => hlt x (by simp [hx]))) (trodAll_cons_mk (trod26 h1 hg (fun x hx => hlt x (by simp [hx]))) (trodAll_cons_mk (trod26 h2 hg (fun x hx => hlt x (by simp [hx]))) (trodAll_cons_mk (trod26 h3 hg (fun x hx => hlt x (by simp [hx]))) trodAll_mk0)))

/-- The statement. -/
theorem keeps_holds : Rows.TableKeepsSaid :=
  OpenClaim.holds_of_wide 5 Try.f5 rfl rfl rfl rfl rfl rfl rfl ⟨rfl, rfl, rfl, rfl, rfl⟩ rfl rfl rfl rfl rfl (by kernel_rfl) Try.func5 (by kernel_rfl)
    (of_decide_eq_true (by kernel_rfl)) (by unfold Func.isWrapper; first | (rw [if_pos (by decide +kernel)]; kernel_rfl) | (rw [if_neg (by decide +kernel)]; exact ⟨rfl, rfl⟩))
    (fun os started H enc _ => keeps_lifted os started H enc)
#print axioms keeps_holds
end Go.Proofs.Ytcfkkmelenjjoaa
