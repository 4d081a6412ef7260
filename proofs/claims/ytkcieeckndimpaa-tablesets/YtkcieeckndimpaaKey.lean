/- Values as the keys of a map: what a count of them says. -/
import Derived.Maps.OwnIn
import Derived.WideKeyEntry
import Derived.DeepKeys4
import Derived.Test.YtkcieeckndimpaaTab
namespace Go.Proofs.Ytkcieeckndimpaa
open Go.RowKit
open Go
open Go.WideMaps (KeyLaw)
open Go.WideElems (Fit findIdx_born findIdx_arr modify_last set_self)
open Go.ChangeMaps (setBlock modify_eq_set)

theorem laidOut : laidOutB Try.prog = true := by kernel_rfl
theorem row26 : 26 < Try.prog.types.size := of_decide_eq_true (by kernel_rfl)
theorem law : KeyLaw Try.prog 26 := deep_law_laid laidOut (m := 3) (by omega) row26 (by kernel_rfl) (by kernel_rfl)
theorem keyed : Maps.Keyed Try.prog 26 := Maps.Keyed.of_law law

/-- What a value reads as, as a key. -/
def kl (x : Vl) : Lit := .string (keyBytes [.int .i64 x.k, .int .i64 x.n, .string x.s.data.toList])

theorem keyT : Try.prog.keyType 26 = true := by kernel_rfl
theorem cells26 : Try.prog.cellsOf 26 = 3 := by kernel_rfl
theorem cells3 : Try.prog.cellsOf 3 = 1 := by kernel_rfl
theorem cells2 : Try.prog.cellsOf 2 = 1 := by kernel_rfl
theorem cells9 : Try.prog.cellsOf 9 = 1 := by kernel_rfl
theorem many : ∃ m, Try.prog.types.size = m + 1 := ⟨72, by kernel_rfl⟩

theorem keyLits (x : Vl) : Try.prog.keyLits (Try.prog.types.size + 1) 26 x.v.cells.toList = some [.int .i64 x.k, .int .i64 x.n, .string x.s.data.toList] := by
  obtain ⟨m, hm⟩ := many
  rw [hm]
  have u := Try.underlying26
  have u2 := Try.underlying2
  have u3 := Try.underlying3
  have u9 := Try.underlying9
  simp [Program.keyLits, u, u2, u3, u9, cells26, cells2, cells3, cells9, Value.cells, x.wk, x.wn, x.ws]

theorem keyOf_v (x : Vl) : keyOf Try.prog 26 x.v = some (kl x) := by
  have u := Try.underlying26
  have hf : x.v.formed Try.prog 26 = true := by
    simp [Value.formed, u, cells26]
  simp only [keyOf, u, keyT, hf, keyLits]
  rfl

/-- A list, from its end. -/
theorem snoc_ind {α : Type} {p : List α → Prop} (nil : p []) (snoc : ∀ xs x, p xs → p (xs ++ [x])) : ∀ xs, p xs := by
  intro xs
  rw [← List.reverse_reverse xs]
  induction xs.reverse with
  | nil => exact nil
  | cons x xs ih => rw [List.reverse_cons]; exact snoc _ _ ih

theorem kl_inj {x y : Vl} (h : kl x = kl y) : x = y := by
  have := law.inj (keyOf_v x) (h ▸ keyOf_v y)
  simp only [Vl.v, Value.agg.injEq, Array.mk.injEq, List.cons.injEq, Value.int.injEq, Value.string.injEq, true_and, and_true] at this
  exact Vl.ext' this.1 this.2.1 (by rw [this.2.2])

theorem isKey (x : Vl) : WideAt.IsKeyLit (kl x) := trivial

theorem pair_ne {α : Type} {r : α → α → Prop} {l : List α} (h : l.Pairwise r) {i j : Nat} {a b : α} (ha : l[i]? = some a) (hb : l[j]? = some b) (hij : i < j) : r a b := by
  obtain ⟨hi, rfl⟩ := List.getElem?_eq_some_iff.1 ha
  obtain ⟨hj, rfl⟩ := List.getElem?_eq_some_iff.1 hb
  exact List.pairwise_iff_getElem.1 h i j hi hj hij

section
variable {H : Type} {P : Program} {w : World} {t k e : TypeId} {R : Value → Option (DataW H × List MemPlace)} {b : Nat} {es : Array MapEntry} {clock : Nat}

/-- The entry that is found or made ahead of the store: the look-up says the same ahead of it and behind it; the store into it is the plain store. -/
theorem entry_all (K : KeyLaw P k) (ht : P.underlying t = some (.map k e)) {z : Value} (hz : ∀ u : World, (zeroValue e).run P u = .ok z u) (hb : w.heap[b]? = some (.map es clock)) (F : Fit P k R es clock)
    {key : Value} {kl : Lit} (hkey : keyOf P k key = some kl) :
    ∃ (v : Value) (st : Nat) (es1 : Array MapEntry) (clock1 : Nat), (Instr.mapEntry t (.map (some b)) key).run P w = .ok (.tuple #[v, goInt st]) (setBlock w b (.map es1 clock1)) ∧
      (Instr.lookup t (.map (some b)) key false).run P w = .ok v w ∧
      (Instr.lookup t (.map (some b)) key false).run P (setBlock w b (.map es1 clock1)) = .ok v (setBlock w b (.map es1 clock1)) ∧
      ∀ (val : Value), ∃ es' clock', (Instr.entryStore t (.map (some b)) (goInt st) val).run P (setBlock w b (.map es1 clock1)) = .ok () (setBlock (setBlock w b (.map es1 clock1)) b (.map es' clock')) ∧
        (Instr.mapUpdate t (.map (some b)) key val).run P w = .ok () (setBlock w b (.map es' clock')) := by
  obtain ⟨s1, s2, _⟩ := F.stamped
  have hb1 : ∀ es1 clock1, (setBlock w b (.map es1 clock1)).heap[b]? = some (.map es1 clock1) := fun _ _ => ChangeMaps.heap_setBlock_same hb _
  rcases K.find w hkey es.toList F.keys with ⟨h1, h2⟩ | ⟨j, e0, h1, h2, h3⟩
  · refine ⟨z, clock, es.push ⟨key, z, clock⟩, clock + 1, ?_, ?_, ?_, fun val => ⟨es.push ⟨key, val, clock⟩, clock + 1, ?_, ?_⟩⟩
    · simp [Instr.mapEntry, run_underlying ht, MapKept.run_getObj_map hb, K.check w false hkey, h1, hz, MapKept.run_setObj_map _ hb, Result.andThen, setBlock]
    · simp [Instr.lookup, run_underlying ht, MapKept.run_getObj_map hb, K.check w _ hkey, h1, hz, Result.andThen]
    · have hw2 := hb1 (es.push ⟨key, z, clock⟩) (clock + 1)
      rcases K.find (setBlock w b (.map (es.push ⟨key, z, clock⟩) (clock + 1))) hkey (es.push ⟨key, z, clock⟩).toList (by
        intro x hx
        rcases (by simpa using hx : x ∈ es ∨ x = ⟨key, z, clock⟩) with hx | rfl
        · exact F.keys x (by simpa using hx)
        · exact ⟨_, hkey⟩) with ⟨_, g2⟩ | ⟨i, e1, g1, g2, g3⟩
      · exact absurd rfl (g2 ⟨key, z, clock⟩ (by simp))
      · have hv : e1.val = z := by
          have := List.mem_of_getElem? g2
          rcases (by simpa using this : e1 ∈ es ∨ e1 = ⟨key, z, clock⟩) with hx | rfl
          · exact absurd g3 (h2 e1 (by simpa using hx))
          · rfl
        simp only [Array.toList_push] at g1
        simp [Instr.lookup, run_underlying ht, MapKept.run_getObj_map hw2, K.check _ _ hkey, g1, hv, Result.andThen]
    · have hw2 := hb1 (es.push ⟨key, z, clock⟩) (clock + 1)
      have hidx : (es.push ⟨key, z, clock⟩).findIdx? (fun e => ((e.born : Nat) : Int) == ((clock : Nat) : Int)) = some es.size := by
        rw [findIdx_arr]
        have := findIdx_born (l := (es.push ⟨key, z, clock⟩).toList) (j := es.size) (e0 := ⟨key, z, clock⟩) (by
          simp only [Array.toList_push, List.map_append, List.map_cons, List.map_nil]
          refine List.nodup_append.2 ⟨s2, by simp, fun a ha c hc e1 => ?_⟩
          simp only [List.mem_singleton] at hc
          obtain ⟨x, hx, rfl⟩ := List.mem_map.1 ha
          have := s1 x hx
          omega) (by simp)
        exact this
      have hmod : (es.push ⟨key, z, clock⟩).modify es.size (fun e => { e with val := val }) = es.push ⟨key, val, clock⟩ := by
        apply Array.ext'
        rw [Array.toList_modify, Array.toList_push, Array.toList_push, ← Array.length_toList, modify_last]
      generalize setBlock w b _ = w2 at hw2 ⊢
      simp [Instr.entryStore, MapKept.run_getObj_map hw2, asInt, asIntOf, goInt, hidx, hmod, MapKept.run_setObj_map _ hw2, Result.andThen, setBlock]
    · simp [Instr.mapUpdate, run_underlying ht, MapKept.run_getObj_map hb, K.check w false hkey, h1, MapKept.run_setObj_map _ hb, Result.andThen, setBlock]
  · have hj : es[j]? = some e0 := by simpa using h2
    have hsame : es.modify j (fun e => { e with key := key }) = es := by
      apply Array.ext'
      rw [Array.toList_modify, modify_eq_set _ _ _ _ h2]
      have : ({ e0 with key := key } : MapEntry) = e0 := by rw [← h3]
      rw [this]
      exact set_self _ _ _ h2
    have hw2 := hb1 es clock
    refine ⟨e0.val, e0.born, es, clock, ?_, ?_, ?_, fun val => ⟨es.modify j (fun e' => { e' with key := key, val := val }), clock, ?_, ?_⟩⟩
    · simp [Instr.mapEntry, run_underlying ht, MapKept.run_getObj_map hb, K.check w false hkey, h1, hj, h3, K.stays w hkey, hsame, MapKept.run_setObj_map _ hb, Result.andThen, setBlock]
    · simp [Instr.lookup, run_underlying ht, MapKept.run_getObj_map hb, K.check w _ hkey, h1, Result.andThen]
    · rcases K.find (setBlock w b (.map es clock)) hkey es.toList F.keys with ⟨_, g2⟩ | ⟨i, e1, g1, g2, g3⟩
      · exact absurd h3 (g2 e0 (List.mem_of_getElem? h2))
      · have hv : e1.val = e0.val := by
          have hn : es.toList.Pairwise (fun x y => x.key ≠ y.key) := ((MapKept.stamped_iff es clock).1 F.stamped).2.2
          have : i = j := by
            rcases Nat.lt_trichotomy i j with h | h | h
            · exact absurd (g3.trans h3.symm) (pair_ne hn g2 h2 h)
            · exact h
            · exact absurd (h3.trans g3.symm) (pair_ne hn h2 g2 h)
          subst this
          rw [g2] at h2
          cases h2
          rfl
        simp [Instr.lookup, run_underlying ht, MapKept.run_getObj_map hw2, K.check _ _ hkey, g1, hv, Result.andThen]
    · have hidx : es.findIdx? (fun e => ((e.born : Nat) : Int) == ((e0.born : Nat) : Int)) = some j := by
        rw [findIdx_arr]
        exact findIdx_born s2 h2
      have hmod : es.modify j (fun e => { e with val := val }) = es.modify j (fun e' => { e' with key := key, val := val }) := by
        apply Array.ext'
        rw [Array.toList_modify, Array.toList_modify, modify_eq_set _ _ _ _ h2, modify_eq_set _ _ _ _ h2, ← h3]
      generalize setBlock w b _ = w2 at hw2 ⊢
      simp [Instr.entryStore, MapKept.run_getObj_map hw2, asInt, asIntOf, goInt, hidx, hmod, MapKept.run_setObj_map _ hw2, Result.andThen, setBlock]
    · simp [Instr.mapUpdate, run_underlying ht, MapKept.run_getObj_map hb, K.check w false hkey, h1, hj, h3, K.stays w hkey, MapKept.run_setObj_map _ hb, Result.andThen, setBlock]

end

theorem setBlock_twice (w : World) (b : Nat) (o o' : Obj) : setBlock (setBlock w b o) b o' = setBlock w b o' := by
  simp [setBlock]

/-- 'm[x]++' in all its orders: four equations, and what the map is then. -/
theorem count_step {w : World} {b n : Nat} {D : DataW Unit} (h : w.ownsMap Try.prog 26 (plainElem Try.prog 3) b n D) (hn : n < maxLen) (x : Vl) :
    ∃ (c : Int) (st : Nat) (w1 w2 : World), (Instr.lookup 45 (.map (some b)) x.v false).run Try.prog w = .ok (.int .i64 c) w ∧
      (Instr.mapEntry 45 (.map (some b)) x.v).run Try.prog w = .ok (.tuple #[.int .i64 c, .int .i64 st]) w1 ∧
      (Instr.lookup 45 (.map (some b)) x.v false).run Try.prog w1 = .ok (.int .i64 c) w1 ∧
      (Instr.entryStore 45 (.map (some b)) (.int .i64 st) (.int .i64 (wrap64 (c + 1)))).run Try.prog w1 = .ok () w2 ∧
      D.atKey (kl x) (.lit (.int .i64 0)) = .lit (.int .i64 c) ∧ w2.ownsMap Try.prog 26 (plainElem Try.prog 3) b (n + 1) (D.put (kl x) (.lit (.int .i64 (wrap64 (c + 1))))) ∧ w.grownBy w2 (some b) ∧
      (∀ i, i ≠ b → w1.heap[i]? = w.heap[i]?) := by
  obtain ⟨c, hl, hat, _⟩ := h.lookup_int keyed Try.underlying45 Try.underlying3 (Try.zeroValue3 _) (keyOf_v x)
  obtain ⟨w2, hu, ho, hg⟩ := h.update keyed Try.underlying45 hn (keyOf_v x) (plainElem_int Try.underlying3 (wrap64_wf (c + 1)))
  obtain ⟨es, clock, hb, F, _, _⟩ := h
  obtain ⟨v, st, es1, clock1, he, hl', hl2, hst⟩ := entry_all law Try.underlying45 (fun u => Try.zeroValue3 u) hb F (keyOf_v x)
  obtain ⟨es', clock', hs, hu'⟩ := hst (.int .i64 (wrap64 (c + 1)))
  rw [hl] at hl'
  simp only [Result.ok.injEq, and_true] at hl'
  subst hl'
  rw [hu] at hu'
  simp only [Result.ok.injEq, true_and] at hu'
  rw [setBlock_twice, ← hu'] at hs
  exact ⟨c, st, _, w2, hl, he, hl2, hs, hat, ho, hg, fun i hi => ChangeMaps.heap_setBlock_other hb _ hi⟩

/-! What the count says. -/

def num : DataW Unit → Int
  | .lit (.int _ c) => c
  | _ => 0

/-- One more. -/
def bump (D : DataW Unit) (x : Vl) : DataW Unit := D.put (kl x) (.lit (.int .i64 (wrap64 (num (D.atKey (kl x) (.lit (.int .i64 0))) + 1))))
def tally (xs : List Vl) : DataW Unit := xs.foldl bump (.map [])
theorem tally_snoc (xs : List Vl) (x : Vl) : tally (xs ++ [x]) = bump (tally xs) x := by simp [tally]

theorem tidy_tally (xs : List Vl) : Maps.Tidy (tally xs) := by
  induction xs using snoc_ind with
  | nil => exact Maps.tidy_empty
  | snoc xs x ih => rw [tally_snoc]; exact ih.put (isKey x) _

theorem has_tally (xs : List Vl) (y : Vl) : Maps.has (tally xs) (kl y) = true ↔ y ∈ xs := by
  induction xs using snoc_ind with
  | nil => simp [tally, Maps.has]
  | snoc xs x ih =>
    rw [tally_snoc, bump]
    by_cases h : y = x
    · subst h
      simp [Maps.has_put_same (tidy_tally xs).isMap (isKey y)]
    · rw [Maps.has_put_other (fun e => h (kl_inj e)), ih]
      simp [h]

theorem at_tally (xs : List Vl) (hl : xs.length ≤ 1000) (y : Vl) : ∃ c : Int, (tally xs).atKey (kl y) (.lit (.int .i64 0)) = .lit (.int .i64 c) ∧ 0 ≤ c ∧ c ≤ xs.length ∧ (0 < c ↔ y ∈ xs) := by
  induction xs using snoc_ind with
  | nil => exact ⟨0, by simp [tally, DataW.atKey], by omega, by simp, by simp⟩
  | snoc xs x ih =>
    simp at hl
    obtain ⟨c, h1, h2, h3, h4⟩ := ih (by omega)
    rw [tally_snoc, bump]
    by_cases h : y = x
    · subst h
      have hw : wrap64 (c + 1) = c + 1 := by unfold wrap64; omega
      refine ⟨c + 1, by rw [Maps.atKey_put_same (tidy_tally xs).isMap (isKey y), h1, num, hw], by omega, by simp; omega, by simp; omega⟩
    · refine ⟨c, by rw [Maps.atKey_put_other (fun e => h (kl_inj e))]; exact h1, h2, by simp; omega, by simp [h4, h]⟩

theorem size_tally_le (xs : List Vl) : Maps.size (tally xs) ≤ xs.length := by
  induction xs using snoc_ind with
  | nil => simp [tally, Maps.size]
  | snoc xs x ih =>
    rw [tally_snoc, bump, Maps.size_put (tidy_tally xs)]
    split <;> simp <;> omega

theorem size_tally (xs : List Vl) : Maps.size (tally xs) = xs.length ↔ xs.Nodup := by
  induction xs using snoc_ind with
  | nil => simp [tally, Maps.size]
  | snoc xs x ih =>
    have hle := size_tally_le xs
    rw [tally_snoc, bump, Maps.size_put (tidy_tally xs)]
    split
    · rename_i h
      have hx := (has_tally xs x).1 h
      constructor
      · intro h'; simp at h'; omega
      · intro h'
        have := (List.nodup_append.1 h').2.2 x hx x (by simp)
        exact absurd rfl this
    · rename_i h
      have hx : ¬ x ∈ xs := fun hm => h ((has_tally xs x).2 hm)
      rw [List.length_append, List.length_singleton, Nat.add_right_cancel_iff, ih]
      constructor
      · intro h'
        exact List.nodup_append.2 ⟨h', by simp, fun a ha c hc e => by simp at hc; subst hc; subst e; exact hx ha⟩
      · intro h'; exact (List.nodup_append.1 h').1

end Go.Proofs.Ytkcieeckndimpaa
