/- Values as the keys of a map: what a count of them says. -/
import Derived.Maps.OwnIn
import Derived.WideKeyEntry
import Derived.DeepKeys4
import Derived.Test.YthpgbienakcbeaaGreatDoorS02
namespace Go.Proofs.YthpgbienakcbeaaGreatDoor
open Go.RowKit Go Go.Shelf
set_option maxRecDepth 100000
set_option maxHeartbeats 8000000
set_option linter.all false
open Go.WideMaps (KeyLaw)
open Go.WideElems (Fit findIdx_born findIdx_arr modify_last set_self)
open Go.ChangeMaps (setBlock modify_eq_set)
variable {i b : Nat} {W W' : World}
theorem b3s : laidOutB Tryz.prog = true := by kernel_rfl
theorem d3i : 30 < Tryz.prog.types.size := of_decide_eq_true (by kernel_rfl)
theorem law : KeyLaw Tryz.prog 30 := deep_law_laid b3s (m := 3) (by omega) d3i (by kernel_rfl) (by kernel_rfl)
theorem c7t : Maps.Keyed Tryz.prog 30 := Maps.Keyed.of_law law
def kl (x : Vl) : Lit := .string (keyBytes [.int .i64 x.k, .int .i64 x.n, .string x.s.data.toList])
theorem keyT : Tryz.prog.keyType 30 = true := by kernel_rfl
theorem b7x : Tryz.prog.cellsOf 30 = 3 := by kernel_rfl
theorem d1e : Tryz.prog.cellsOf 3 = 1 := by kernel_rfl
theorem d1f : Tryz.prog.cellsOf 2 = 1 := by kernel_rfl
theorem d1g : Tryz.prog.cellsOf 9 = 1 := by kernel_rfl
theorem many : ∃ m, Tryz.prog.types.size = m + 1 := ⟨192, by kernel_rfl⟩
theorem keyLits (x : Vl) : Tryz.prog.keyLits (Tryz.prog.types.size + 1) 30 x.v.cells.toList = some [.int .i64 x.k, .int .i64 x.n, .string x.s.data.toList] := by
 obtain ⟨m, hm⟩ := many
 rw [hm]
 have u := Tryz.underlying30
 have u2 := Tryz.underlying2
 have u3 := Tryz.underlying3
 have u9 := Tryz.underlying9
 simp [Program.keyLits, u, u2, u3, u9, b7x, d1f, d1e, d1g, Value.cells, x.wk, x.wn, x.ws]
theorem a8h (x : Vl) : keyOf Tryz.prog 30 x.v = some (kl x) := by
 have u := Tryz.underlying30
 have hf : x.v.formed Tryz.prog 30 = true := by
  simp [Value.formed, u, b7x]
 simp only [keyOf, u, keyT, hf, keyLits]
 rfl
theorem snoc_ind {α : Type} {p : List α → Prop} (nil : p []) (snoc : ∀ xs x, p xs → p (xs ++ [x])) : ∀ xs, p xs := by
 intro xs
 rw [← List.reverse_reverse xs]
 induction xs.reverse with
 | nil => exact nil
 | cons x xs ih => rw [List.reverse_cons]; exact snoc _ _ ih
theorem c6z {x y : Vl} (h : kl x = kl y) : x = y := by
 have := law.inj (a8h x) (h ▸ a8h y)
 simp only [Vl.v, Value.agg.injEq, Array.mk.injEq, List.cons.injEq, Value.int.injEq, Value.string.injEq, true_and, and_true] at this
 exact Vl.ext' this.1 this.2.1 (by rw [this.2.2])
theorem c7u (x : Vl) : WideAt.IsKeyLit (kl x) := trivial
theorem b3t {α : Type} {r : α → α → Prop} {l : List α} (h : l.Pairwise r) {j : Nat} {a b : α} (ha : l[i]? = some a) (hb : l[j]? = some b) (hij : i < j) : r a b := by
 obtain ⟨hi, rfl⟩ := List.getElem?_eq_some_iff.1 ha
 obtain ⟨hj, rfl⟩ := List.getElem?_eq_some_iff.1 hb
 exact List.pairwise_iff_getElem.1 h i j hi hj hij
section
variable {H : Type} {P : Program} {w : World} {t k e : TypeId} {R : Value → Option (DataW H × List MemPlace)} {b : Nat} {es : Array MapEntry} {clock : Nat}
theorem b7y (K : KeyLaw P k) (ht : P.underlying t = some (.map k e)) {z : Value} (hz : ∀ u : World, (zeroValue e).run P u = .ok z u) (hb : w.heap[b]? = some (.map es clock)) (F : Fit P k R es clock) {key : Value} {kl : Lit} (hkey : keyOf P k key = some kl) :
  ∃ (v : Value) (st : Nat) (es1 : Array MapEntry) (clock1 : Nat), (Instr.mapEntry t (.map (some b)) key).run P w = .ok (.tuple #[v, goInt st]) (setBlock w b (.map es1 clock1)) ∧
   (Instr.lookup t (.map (some b)) key false).run P w = .ok v w ∧
   (Instr.lookup t (.map (some b)) key false).run P (setBlock w b (.map es1 clock1)) = .ok v (setBlock w b (.map es1 clock1)) ∧
   ∀ (val : Value), ∃ es' clock', (Instr.entryStore t (.map (some b)) (goInt st) val).run P (setBlock w b (.map es1 clock1)) = .ok () (setBlock (setBlock w b (.map es1 clock1)) b (.map es' clock')) ∧
    (Instr.mapUpdate t (.map (some b)) key val).run P w = .ok () (setBlock w b (.map es' clock')) := by
 obtain ⟨s1, s2, _⟩ := F.stamped
 have hb1 : ∀ es1 clock1, (setBlock w b (.map es1 clock1)).heap[b]? = some (.map es1 clock1) := fun _ _ => ChangeMaps.heap_setBlock_same hb _
 rcases K.find w hkey es.toList F.keys with ⟨h1, h2⟩ | ⟨j, e0, h1, h2, h3⟩
 ·refine ⟨z, clock, es.push ⟨key, z, clock⟩, clock + 1, ?_, ?_, ?_, fun val => ⟨es.push ⟨key, val, clock⟩, clock + 1, ?_, ?_⟩⟩
  ·simp [Instr.mapEntry, run_underlying ht, MapKept.run_getObj_map hb, K.check w false hkey, h1, hz, MapKept.run_setObj_map _ hb, Result.andThen, setBlock]
  ·simp [Instr.lookup, run_underlying ht, MapKept.run_getObj_map hb, K.check w _ hkey, h1, hz, Result.andThen]
  ·have hw2 := hb1 (es.push ⟨key, z, clock⟩) (clock + 1)
   rcases K.find (setBlock w b (.map (es.push ⟨key, z, clock⟩) (clock + 1))) hkey (es.push ⟨key, z, clock⟩).toList (by
    intro x hx
    rcases (by simpa using hx : x ∈ es ∨ x = ⟨key, z, clock⟩) with hx | rfl
    ·exact F.keys x (by simpa using hx)
    ·exact ⟨_, hkey⟩) with ⟨_, g2⟩ | ⟨i, e1, g1, g2, g3⟩
   ·exact absurd rfl (g2 ⟨key, z, clock⟩ (by simp))
   ·have hv : e1.val = z := by
     have := List.mem_of_getElem? g2
     rcases (by simpa using this : e1 ∈ es ∨ e1 = ⟨key, z, clock⟩) with hx | rfl
     ·exact absurd g3 (h2 e1 (by simpa using hx))
     ·rfl
    simp only [Array.toList_push] at g1
    simp [Instr.lookup, run_underlying ht, MapKept.run_getObj_map hw2, K.check _ _ hkey, g1, hv, Result.andThen]
  ·have hw2 := hb1 (es.push ⟨key, z, clock⟩) (clock + 1)
   have hidx : (es.push ⟨key, z, clock⟩).findIdx? (fun e => ((e.born : Nat) : Int) == ((clock : Nat) : Int)) = some es.size := by
    rw [findIdx_arr]
    have := findIdx_born (l := (es.push ⟨key, z, clock⟩).toList) (j := es.size) (e0 := ⟨key, z, clock⟩) (by
     simp only [Array.toList_push, List.map_append, List.map_cons, List.map_nil]
     refine List.nodup_append.2 ⟨s2, by simp, fun a ha c hc e1 => ?_⟩
     simp only [List.mem_singleton] at hc
     obtain ⟨x, hx, rfl⟩ := List.mem_map.1 ha
     have := s1 x hx
     omega) (by simp)
    exact this
   have hmod : (es.push ⟨key, z, clock⟩).modify es.size (fun e => { e with val := val }) = es.push ⟨key, val, clock⟩ := by
    apply Array.ext'
    rw [Array.toList_modify, Array.toList_push, Array.toList_push, ← Array.length_toList, modify_last]
   generalize setBlock w b _ = w2 at hw2 ⊢
   simp [Instr.entryStore, MapKept.run_getObj_map hw2, asInt, asIntOf, goInt, hidx, hmod, MapKept.run_setObj_map _ hw2, Result.andThen, setBlock]
  ·simp [Instr.mapUpdate, run_underlying ht, MapKept.run_getObj_map hb, K.check w false hkey, h1, MapKept.run_setObj_map _ hb, Result.andThen, setBlock]
 ·have hj : es[j]? = some e0 := by simpa using h2
  have hsame : es.modify j (fun e => { e with key := key }) = es := by
   apply Array.ext'
   rw [Array.toList_modify, modify_eq_set _ _ _ _ h2]
   have : ({ e0 with key := key } : MapEntry) = e0 := by rw [← h3]
   rw [this]
   exact set_self _ _ _ h2
  have hw2 := hb1 es clock
  refine ⟨e0.val, e0.born, es, clock, ?_, ?_, ?_, fun val => ⟨es.modify j (fun e' => { e' with key := key, val := val }), clock, ?_, ?_⟩⟩
  ·simp [Instr.mapEntry, run_underlying ht, MapKept.run_getObj_map hb, K.check w false hkey, h1, hj, h3, K.stays w hkey, hsame, MapKept.run_setObj_map _ hb, Result.andThen, setBlock]
  ·simp [Instr.lookup, run_underlying ht, MapKept.run_getObj_map hb, K.check w _ hkey, h1, Result.andThen]
  ·rcases K.find (setBlock w b (.map es clock)) hkey es.toList F.keys with ⟨_, g2⟩ | ⟨i, e1, g1, g2, g3⟩
   ·exact absurd h3 (g2 e0 (List.mem_of_getElem? h2))
   ·have hv : e1.val = e0.val := by
     have hn : es.toList.Pairwise (fun x y => x.key ≠ y.key) := ((MapKept.stamped_iff es clock).1 F.stamped).2.2
     have : i = j := by
      rcases Nat.lt_trichotomy i j with h | h | h
      ·exact absurd (g3.trans h3.symm) (b3t hn g2 h2 h)
      ·exact h
      ·exact absurd (h3.trans g3.symm) (b3t hn h2 g2 h)
     subst this
     rw [g2] at h2
     cases h2
     rfl
    simp [Instr.lookup, run_underlying ht, MapKept.run_getObj_map hw2, K.check _ _ hkey, g1, hv, Result.andThen]
  ·have hidx : es.findIdx? (fun e => ((e.born : Nat) : Int) == ((e0.born : Nat) : Int)) = some j := by
    rw [findIdx_arr]
    exact findIdx_born s2 h2
   have hmod : es.modify j (fun e => { e with val := val }) = es.modify j (fun e' => { e' with key := key, val := val }) := by
    apply Array.ext'
    rw [Array.toList_modify, Array.toList_modify, modify_eq_set _ _ _ _ h2, modify_eq_set _ _ _ _ h2, ← h3]
   generalize setBlock w b _ = w2 at hw2 ⊢
   simp [Instr.entryStore, MapKept.run_getObj_map hw2, asInt, asIntOf, goInt, hidx, hmod, MapKept.run_setObj_map _ hw2, Result.andThen, setBlock]
  ·simp [Instr.mapUpdate, run_underlying ht, MapKept.run_getObj_map hb, K.check w false hkey, h1, hj, h3, K.stays w hkey, MapKept.run_setObj_map _ hb, Result.andThen, setBlock]
end
theorem b0g (w : World) (b : Nat) (o o' : Obj) : setBlock (setBlock w b o) b o' = setBlock w b o' := by
 simp [setBlock]
theorem b6m {w : World} {n : Nat} {D : DataW Unit} (h : w.ownsMap Tryz.prog 30 (plainElem Tryz.prog 3) b n D) (hn : n < maxLen) (x : Vl) :
  ∃ (c : Int) (st : Nat) (w1 w2 : World), (Instr.lookup 99 (.map (some b)) x.v false).run Tryz.prog w = .ok (.int .i64 c) w ∧
   (Instr.mapEntry 99 (.map (some b)) x.v).run Tryz.prog w = .ok (.tuple #[.int .i64 c, .int .i64 st]) w1 ∧
   (Instr.lookup 99 (.map (some b)) x.v false).run Tryz.prog w1 = .ok (.int .i64 c) w1 ∧
   (Instr.entryStore 99 (.map (some b)) (.int .i64 st) (.int .i64 (wrap64 (c + 1)))).run Tryz.prog w1 = .ok () w2 ∧
   D.atKey (kl x) (.lit (.int .i64 0)) = .lit (.int .i64 c) ∧ w2.ownsMap Tryz.prog 30 (plainElem Tryz.prog 3) b (n + 1) (D.put (kl x) (.lit (.int .i64 (wrap64 (c + 1))))) ∧ w.grownBy w2 (some b) ∧
   (∀ i, i ≠ b → w1.heap[i]? = w.heap[i]?) := by
 obtain ⟨c, hl, hat, _⟩ := h.lookup_int c7t Tryz.underlying99 Tryz.underlying3 (Tryz.zeroValue3 _) (a8h x)
 obtain ⟨w2, hu, ho, hg⟩ := h.update c7t Tryz.underlying99 hn (a8h x) (plainElem_int Tryz.underlying3 (wrap64_wf (c + 1)))
 obtain ⟨es, clock, hb, F, _, _⟩ := h
 obtain ⟨v, st, es1, clock1, he, hl', hl2, hst⟩ := b7y law Tryz.underlying99 (fun u => Tryz.zeroValue3 u) hb F (a8h x)
 obtain ⟨es', clock', hs, hu'⟩ := hst (.int .i64 (wrap64 (c + 1)))
 rw [hl] at hl'
 simp only [Result.ok.injEq, and_true] at hl'
 subst hl'
 rw [hu] at hu'
 simp only [Result.ok.injEq, true_and] at hu'
 rw [b0g, ← hu'] at hs
 exact ⟨c, st, _, w2, hl, he, hl2, hs, hat, ho, hg, fun i hi => ChangeMaps.heap_setBlock_other hb _ hi⟩
/-! What the count says. -/
def num : DataW Unit → Int
 | .lit (.int _ c) => c
 | _ => 0
def bump (D : DataW Unit) (x : Vl) : DataW Unit := D.put (kl x) (.lit (.int .i64 (wrap64 (num (D.atKey (kl x) (.lit (.int .i64 0))) + 1))))
def a4u (xs : List Vl) : DataW Unit := xs.foldl bump (.map [])
theorem a4e (xs : List Vl) (x : Vl) : a4u (xs ++ [x]) = bump (a4u xs) x := by simp [a4u]
theorem a6g (xs : List Vl) : Maps.Tidy (a4u xs) := by
 induction xs using snoc_ind with
 | nil => exact Maps.tidy_empty
 | snoc xs x ih => rw [a4e]; exact ih.put (c7u x) _
theorem b2d (xs : List Vl) (y : Vl) : Maps.has (a4u xs) (kl y) = true ↔ y ∈ xs := by
 induction xs using snoc_ind with
 | nil => simp [a4u, Maps.has]
 | snoc xs x ih =>
  rw [a4e, bump]
  by_cases h : y = x
  ·subst h
   simp [Maps.has_put_same (a6g xs).isMap (c7u y)]
  ·rw [Maps.has_put_other (fun e => h (c6z e)), ih]
   simp [h]
theorem c2q (xs : List Vl) (hl : xs.length ≤ 1000) (y : Vl) : ∃ c : Int, (a4u xs).atKey (kl y) (.lit (.int .i64 0)) = .lit (.int .i64 c) ∧ 0 ≤ c ∧ c ≤ xs.length ∧ (0 < c ↔ y ∈ xs) := by
 induction xs using snoc_ind with
 | nil => exact ⟨0, by simp [a4u, DataW.atKey], by omega, by simp, by simp⟩
 | snoc xs x ih =>
  simp at hl
  obtain ⟨c, h1, h2, h3, h4⟩ := ih (by omega)
  rw [a4e, bump]
  by_cases h : y = x
  ·subst h
   have hw : wrap64 (c + 1) = c + 1 := by unfold wrap64; omega
   refine ⟨c + 1, by rw [Maps.atKey_put_same (a6g xs).isMap (c7u y), h1, num, hw], by omega, by simp; omega, by simp; omega⟩
  ·refine ⟨c, by rw [Maps.atKey_put_other (fun e => h (c6z e))]; exact h1, h2, by simp; omega, by simp [h4, h]⟩
theorem b1e (xs : List Vl) : Maps.size (a4u xs) ≤ xs.length := by
 induction xs using snoc_ind with
 | nil => simp [a4u, Maps.size]
 | snoc xs x ih =>
  rw [a4e, bump, Maps.size_put (a6g xs)]
  split <;> simp <;> omega
theorem b6n (xs : List Vl) : Maps.size (a4u xs) = xs.length ↔ xs.Nodup := by
 induction xs using snoc_ind with
 | nil => simp [a4u, Maps.size]
 | snoc xs x ih =>
  have hle := b1e xs
  rw [a4e, bump, Maps.size_put (a6g xs)]
  split
  ·rename_i h
   have hx := (b2d xs x).1 h
   constructor
   ·intro h'; simp at h'; omega
   ·intro h'
    have := (List.nodup_append.1 h').2.2 x hx x (by simp)
    exact absurd rfl this
  ·rename_i h
   have hx : ¬ x ∈ xs := fun hm => h ((b2d xs x).2 hm)
   rw [List.length_append, List.length_singleton, Nat.add_right_cancel_iff, ih]
   constructor
   ·intro h'
    exact List.nodup_append.2 ⟨h', by simp, fun a ha c hc e => by simp at hc; subst hc; subst e; exact hx ha⟩
   ·intro h'; exact (List.nodup_append.1 h').1
section
attribute [local go_sem] Oper.semAt_some
theorem a1m.own {β : Type} (b o : Nat) (x : Vl) : Own (fun (_ : β) W => a1m W b o x) := fun _ _ _ _ hs hg hr => ⟨cell_kept hs.k hg hr, cell_kept hs.n hg hr, cell_kept hs.s hg hr⟩
theorem b2e (c : Int) (w : World) : (Instr.makeMap 99 (some (.int .i64 c))).run Tryz.prog w = .ok (.map (some w.heap.size)) (w.alloc (.map #[] 0)) := by
 have u := Tryz.underlying99
 simp [Instr.makeMap, run_underlying u, asInt, asIntOf, Result.andThen]
theorem a2s {m Bt : Nat} (h : Below W.heap.size W W') (hm : m ≤ W.heap.size) (hB : Bt < W.heap.size) : Kept m Bt W W' := ⟨h.mono hm, h.block Bt hB⟩
theorem a1l {B : Nat} (h : Below W.heap.size W W') : KeepsFrom B W W' := ⟨h.size, fun k _ _ hk _ => (h.block k (Array.getElem?_eq_some_iff.1 hk).1).trans hk⟩
theorem a2n {v : Value} (o : Obj) (h : W.cell? ⟨b, i, none⟩ = some v) : (W.alloc o).cell? ⟨b, i, none⟩ = some v := (World.cell?_alloc_past _ _ _ (World.block_lt_of_cell? _ _ h)).trans h
theorem a5d (W : World) (x : Vl) : a1m (W.alloc (.cells #[.int .i64 x.k, .int .i64 x.n, .string x.s] 30)) W.heap.size 0 x := by
 refine ⟨?_, ?_, ?_⟩ <;> (rw [World.cell?_alloc_at _ _ _ _ rfl]; rfl)
abbrev keysOf (zs : List (Vl × Vl)) : List Vl := zs.map Prod.fst
abbrev a0q (zs : List (Vl × Vl)) : List Vl := zs.map Prod.snd
theorem b7z (n : Nat) (h1 : 1 ≤ n) (ks vs : Value) (zs : List (Vl × Vl)) (hlen : zs.length ≤ 100) (w : World) (hT : Tab w.heap.size w ks vs (keysOf zs) (a0q zs)) :
  CallsIn Fence.wide n Tryz.prog 64 #[.agg #[ks, vs]] w fun e W' => e = .returned (.map (some (w.heap.size + 1))) ∧
   W'.ownsMap Tryz.prog 30 (plainElem Tryz.prog 3) (w.heap.size + 1) zs.length (a4u (keysOf zs)) ∧ Below w.heap.size w W' := by
 have hmm := b2e
 obtain ⟨a, c1, hks, _, _⟩ := hT.keys
 simp only [List.length_map] at hks
 subst hks
 refine callsIn_of_wp_marks Tryz.func64 rfl trivial ?_ rfl
 simp only [Tryz.ntmps64, List.size_toArray, List.length_cons, List.length_nil, Nat.reduceAdd, Nat.reduceSub, Array.replicate_succ, Array.replicate_zero, List.push_toArray, List.append_toArray, List.nil_append, List.cons_append]
 gi_wp2_with (refine ⟨trivial, ?_⟩; gi_at_call 62; refine (a7a _ _ _ _).mono ?_; rintro e w' ⟨rfl, rfl⟩)
 have hm0 := World.ownsMap_made (w.alloc (.cells #[.slice a zs.length c1, vs] 57)) Tryz.prog 30 (plainElem (H := Unit) Tryz.prog 3)
 obtain ⟨W0, hW0⟩ : ∃ W0, (((w.alloc (.cells #[.slice a zs.length c1, vs] 57)).alloc (.map #[] 0)).alloc (.cells #[.map (some (w.heap.size + 1))] 99)).alloc (.cells #[.slice a zs.length c1, vs] 57) = W0 := ⟨_, rfl⟩
 have hs0 : W0.heap.size = w.heap.size + 4 := by rw [← hW0]; simp
 have bS : Boxed W0 (w.heap.size + 1 + 1) 99 (.map (some (w.heap.size + 1))) := by
  have := (Boxed.new ((w.alloc (.cells #[.slice a zs.length c1, vs] 57)).alloc (.map #[] 0)) 99 (.map (some (w.heap.size + 1)))).alloc (.cells #[.slice a zs.length c1, vs] 57)
  simp only [World.size_alloc] at this
  rw [← hW0]; exact this
 have hbt : W0.heap[w.heap.size + 1 + 1 + 1]? = some (.cells #[.slice a zs.length c1, vs] 57) := by
  have := World.alloc_heap_new (((w.alloc (.cells #[.slice a zs.length c1, vs] 57)).alloc (.map #[] 0)).alloc (.cells #[.map (some (w.heap.size + 1))] 99)) (.cells #[.slice a zs.length c1, vs] 57)
  simp only [World.size_alloc] at this
  rw [← hW0]; exact this
 have hB0 : Below w.heap.size w W0 := by rw [← hW0]; exact ((((Below.refl _ w).alloc (Nat.le_refl _) _).alloc (by simp) _).alloc (by simp; omega) _).alloc (by simp; omega) _
 have hm1 : W0.ownsMap Tryz.prog 30 (plainElem (H := Unit) Tryz.prog 3) (w.heap.size + 1) 0 (.map []) := by
  have := (hm0.alloc (.cells #[.map (some (w.heap.size + 1))] 99)).alloc (.cells #[.slice a zs.length c1, vs] 57)
  simp only [World.size_alloc] at this
  rw [← hW0]; exact this
 rw [hW0]
 clear hm0 hW0
 refine wpIn_rangeFunc_ownH rfl h1 (gf := 94) (lb := #[.pointer (some ⟨w.heap.size + 1 + 1 + 1, 0, none⟩)]) rfl trivial (enters_of Tryz.func94 (by kernel_rfl) rfl)
  (a4n (n - 1) (w.heap.size + 1 + 1 + 1) w.heap.size _ _ zs hlen W0 (by omega) (by omega) hbt (hT.below hB0)) (fun h k => h.trans k) (Kept.putObj (by omega) (by omega)) (Below.refl _ _) (fun _ => rfl)
  (fun (pre : List (Vl × Vl)) W => (W0.heap.size ≤ W.heap.size ∧ W.cell? ⟨w.heap.size + 1 + 1, 0, none⟩ = some (.map (some (w.heap.size + 1))) ∧ W.ownsMap Tryz.prog 30 (plainElem (H := Unit) Tryz.prog 3) (w.heap.size + 1) pre.length (a4u (keysOf pre))) ∧ Below w.heap.size w W)
  (fun _ _ _ => False)
  (OwnFrom.and (fun s A B row hs hg hr => ⟨Nat.le_trans hs.1 hg.size, cell_kept hs.2.1 hg (fun r e => (hr r e).2), hs.2.2.kept hg (fun e => by have := (hr _ e.symm).1; omega)⟩) (ownFrom_below (Nat.le_refl _) (by omega)))
  (fun _ _ _ _ _ hs _ _ => hs)
  ⟨⟨Nat.le_refl _, bS.cell, hm1⟩, hB0⟩
  (fun x a' W => ∃ Bx, w.heap.size + 1 + 1 + 1 < Bx ∧ a1m W Bx 0 x.1 ∧ a' = { tmps := #[.agg #[.slice a zs.length c1, vs], .pointer (some ⟨w.heap.size, 0, none⟩), .map none, .pointer (some ⟨w.heap.size + 1 + 1, 0, none⟩), .pointer (some ⟨Bx, 0, none⟩), .pointer (some ⟨w.heap.size, 0, none⟩), .slice a zs.length c1, .int .i64 zs.length, .map (some (w.heap.size + 1)), .agg #[.slice a zs.length c1, vs], .func (.func 94) #[] #[.pointer (some ⟨w.heap.size + 1 + 1 + 1, 0, none⟩)], x.1.v, x.2.v, undef, undef, undef, undef, undef, undef, undef], defers := [] })
  (fun x a' => fun _ A B row hs hg hr => by obtain ⟨Bx, h1, h2, h3⟩ := hs; exact ⟨Bx, h1, (a1m.own (β := Unit) Bx 0 x.1) () A B row h2 hg (fun r e => (hr r e).2), h3⟩)
  ?assign ?body ?done ?stop
 case assign =>
  rintro l pre x W K ⟨⟨hz, hc, hown⟩, hB⟩ hK
  gi_wp2
  have hb' : Below W.heap.size W (W.alloc (.cells #[.int .i64 x.1.k, .int .i64 x.1.n, .string x.1.s] 30)) := (Below.refl _ _).alloc (Nat.le_refl _) _
  exact hK _ _ (a1l hb') (a2s hb' (by omega) (by omega)) ⟨⟨by have := hb'.size; omega, a2n _ hc, hown.alloc _⟩, hB.trans (hb'.mono (by omega))⟩ ⟨W.heap.size, by omega, a5d W x.1, rfl⟩
 case body =>
  rintro l pre x a' W hl ⟨r, hr⟩ ⟨⟨hz, hc, hown⟩, hB⟩ ⟨Bx, hBx, ⟨t0, t1, t2⟩, rfl⟩ hlt
  obtain ⟨c, st, w1, w2, q1, q2, q3, q4, hat, hown2, hgrow, hoth⟩ := b6m hown.drew (by unfold maxLen; omega) x.1
  rw [show wrap64 (c + 1) = IntKind.i64.wrap (c + 1) from (IntWalk.i64_left _).symm] at q4
  gi_wp2
  obtain ⟨K0, hK0⟩ : ∃ K0 : Act → World → Prop, K0 = (fun (_ : Act) w' => w' = w2) := ⟨_, rfl⟩
  refine wpIn_mono (Q := Exit.then K0 (fun _ _ _ => False)) ?_ ?_
  ·clear hown hown2 hgrow hoth hat hB hlt hz hr hl hT hmm hbt hB0 hm1 hs0 bS
   replace hK0 : Hid _ := hK0
   gi_region
   all_goals (rw [hK0.out]; exact rfl)
  ·intro e a' w' hQ
   rw [hK0] at hQ
   obtain ⟨rfl, rfl⟩ := a6l hQ
   obtain ⟨es, ck, hh, _⟩ := hown
   refine ⟨((KeepsOthers.drew W).from _).trans (KeepsFrom.of_grownBy hgrow (fun j e => by cases e; omega)), ⟨((Below.refl w.heap.size W).drew).grown hgrow (by show _ ≤ W.heap.size; omega) (fun k e => by cases e; omega), hgrow.block _ (by show _ < W.heap.size; omega) (fun e => by injection e with e; omega)⟩, ⟨Nat.le_trans hz hgrow.size, cell_kept (W := W.drew) hc hgrow (fun r e => by cases e; exact ⟨_, hh, rfl⟩), ?_⟩, (hB.drew).grown hgrow (by show _ ≤ W.heap.size; omega) (fun k e => by cases e; omega)⟩
   rw [keysOf, List.map_append, List.length_append, List.map_singleton, a4e, bump, hat]
   exact hown2
 case done =>
  rintro D ys W hD rfl ⟨⟨hz, hc, hown⟩, hB⟩ hK
  gi_wp2
  refine ⟨by simp, .inl ⟨_, _, rfl, run_takeDeferred hK, ?_⟩⟩
  exact ⟨_, results_tmp rfl _ _ _, rfl, hown.kept (grownBy_putObj' _ D _) (fun e => by cases e; omega), hB.trans (belowK_b (w := w) (Nat.le_refl _) W D _ _ (by omega) hK rfl rfl)⟩
 case stop =>
  rintro D c pre W _ _ h _
  exact h.elim
end
end Go.Proofs.YthpgbienakcbeaaGreatDoor
