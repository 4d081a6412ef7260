/- The words of the language, as they are laid into their maps. Operators by number, as they are put in, in whatever order. -/
import Derived.Test.YtbofdfdmikhanaaGreatDoorJ14
import Derived.Maps.RangeRun
namespace Go.Proofs.YtbofdfdmikhanaaGreatDoor
open Go.RowKit
open Go

theorem put_new {w : World} {T K E : TypeId} {d : TypeDesc} {α : Type} [BEq α] [LawfulBEq α] {kf : α → Value} (ht : Tryz.prog.underlying T = some (.map K E)) (hK : Tryz.prog.underlying K = some d) (hk : KeyK d kf) (kv : List (α × Value)) (hd : (kv.map (·.1)).Nodup) (k : α) (hn : kv.lookup k = none) (v : Value) (kv' : List (α × Value)) (hkv : kv ++ [(k, v)] = kv') :
    (Instr.mapUpdate T (.map (some w.heap.size)) (kf k) v).run Tryz.prog (w.alloc (mapObj kf kv)) = .ok () (w.alloc (mapObj kf kv')) := by
  subst hkv
  refine (run_put ht hK hk (alloc_new w _) hd k hn v).trans ?_
  have hp : ∀ (h : Array Obj) (x y : Obj), (h.push x).setIfInBounds h.size y = h.push y := by
    intro h x y
    apply Array.toList_inj.1
    simp
  show Result.ok () ({ w.alloc (mapObj kf kv) with heap := (w.heap.push (mapObj kf kv)).setIfInBounds w.heap.size (mapObj kf (kv ++ [(k, v)])) } : World) = _
  rw [hp]
  rfl
theorem mk46 (u : World) : (Instr.makeMap 46 none).run Tryz.prog u = .ok (.map (some u.heap.size)) (u.alloc (mapObj sk [])) := by kernel_rfl
theorem mk45 (u : World) : (Instr.makeMap 45 none).run Tryz.prog u = .ok (.map (some u.heap.size)) (u.alloc (mapObj sk [])) := by kernel_rfl
theorem mk48 (u : World) : (Instr.makeMap 48 none).run Tryz.prog u = .ok (.map (some u.heap.size)) (u.alloc (mapObj sk [])) := by kernel_rfl
theorem mk47 (u : World) : (Instr.makeMap 47 none).run Tryz.prog u = .ok (.map (some u.heap.size)) (u.alloc (mapObj ik [])) := by kernel_rfl
set_option maxRecDepth 20000 in
set_option maxHeartbeats 1000000 in
theorem newOps_any (w : World) : Calls Tryz.prog 37 #[] w fun e w' => e = .returned (.map (some w.heap.size)) ∧ w' = w.alloc (mapObj sk operatorsKV) := by
  have hmk := mk46 w
  obtain ⟨O0, hO0⟩ : ∃ o, mapObj sk (operatorsKV.take 0) = o := ⟨_, rfl⟩
  obtain ⟨O1, hO1⟩ : ∃ o, mapObj sk (operatorsKV.take 1) = o := ⟨_, rfl⟩
  obtain ⟨O2, hO2⟩ : ∃ o, mapObj sk (operatorsKV.take 2) = o := ⟨_, rfl⟩
  obtain ⟨O3, hO3⟩ : ∃ o, mapObj sk (operatorsKV.take 3) = o := ⟨_, rfl⟩
  obtain ⟨O4, hO4⟩ : ∃ o, mapObj sk (operatorsKV.take 4) = o := ⟨_, rfl⟩
  obtain ⟨O5, hO5⟩ : ∃ o, mapObj sk (operatorsKV.take 5) = o := ⟨_, rfl⟩
  obtain ⟨O6, hO6⟩ : ∃ o, mapObj sk (operatorsKV.take 6) = o := ⟨_, rfl⟩
  obtain ⟨O7, hO7⟩ : ∃ o, mapObj sk (operatorsKV.take 7) = o := ⟨_, rfl⟩
  obtain ⟨O8, hO8⟩ : ∃ o, mapObj sk (operatorsKV.take 8) = o := ⟨_, rfl⟩
  obtain ⟨O9, hO9⟩ : ∃ o, mapObj sk (operatorsKV.take 9) = o := ⟨_, rfl⟩
  obtain ⟨O10, hO10⟩ : ∃ o, mapObj sk (operatorsKV.take 10) = o := ⟨_, rfl⟩
  obtain ⟨O11, hO11⟩ : ∃ o, mapObj sk (operatorsKV.take 11) = o := ⟨_, rfl⟩
  rw [show ([] : List (List UInt8 × Value)) = operatorsKV.take 0 from rfl, hO0] at hmk
  have hp0 : (Instr.mapUpdate 46 (.map (some w.heap.size)) (.string ⟨#[111, 114]⟩) (.agg #[.int .i64 21, .int .i64 1])).run Tryz.prog (w.alloc O0) = .ok () (w.alloc O1) := hO0 ▸ hO1 ▸ put_new Tryz.underlying46 Tryz.underlying9 key_str (operatorsKV.take 0) (by decide) [111, 114] rfl _ _ rfl
  have hp1 : (Instr.mapUpdate 46 (.map (some w.heap.size)) (.string ⟨#[97, 110, 100]⟩) (.agg #[.int .i64 20, .int .i64 2])).run Tryz.prog (w.alloc O1) = .ok () (w.alloc O2) := hO1 ▸ hO2 ▸ put_new Tryz.underlying46 Tryz.underlying9 key_str (operatorsKV.take 1) (by decide) [97, 110, 100] rfl _ _ rfl
  have hp2 : (Instr.mapUpdate 46 (.map (some w.heap.size)) (.string ⟨#[61, 61]⟩) (.agg #[.int .i64 7, .int .i64 3])).run Tryz.prog (w.alloc O2) = .ok () (w.alloc O3) := hO2 ▸ hO3 ▸ put_new Tryz.underlying46 Tryz.underlying9 key_str (operatorsKV.take 2) (by decide) [61, 61] rfl _ _ rfl
  have hp3 : (Instr.mapUpdate 46 (.map (some w.heap.size)) (.string ⟨#[60]⟩) (.agg #[.int .i64 8, .int .i64 3])).run Tryz.prog (w.alloc O3) = .ok () (w.alloc O4) := hO3 ▸ hO4 ▸ put_new Tryz.underlying46 Tryz.underlying9 key_str (operatorsKV.take 3) (by decide) [60] rfl _ _ rfl
  have hp4 : (Instr.mapUpdate 46 (.map (some w.heap.size)) (.string ⟨#[60, 61]⟩) (.agg #[.int .i64 9, .int .i64 3])).run Tryz.prog (w.alloc O4) = .ok () (w.alloc O5) := hO4 ▸ hO5 ▸ put_new Tryz.underlying46 Tryz.underlying9 key_str (operatorsKV.take 4) (by decide) [60, 61] rfl _ _ rfl
  have hp5 : (Instr.mapUpdate 46 (.map (some w.heap.size)) (.string ⟨#[46, 46]⟩) (.agg #[.int .i64 6, .int .i64 4])).run Tryz.prog (w.alloc O5) = .ok () (w.alloc O6) := hO5 ▸ hO6 ▸ put_new Tryz.underlying46 Tryz.underlying9 key_str (operatorsKV.take 5) (by decide) [46, 46] rfl _ _ rfl
  have hp6 : (Instr.mapUpdate 46 (.map (some w.heap.size)) (.string ⟨#[43]⟩) (.agg #[.int .i64 1, .int .i64 5])).run Tryz.prog (w.alloc O6) = .ok () (w.alloc O7) := hO6 ▸ hO7 ▸ put_new Tryz.underlying46 Tryz.underlying9 key_str (operatorsKV.take 6) (by decide) [43] rfl _ _ rfl
  have hp7 : (Instr.mapUpdate 46 (.map (some w.heap.size)) (.string ⟨#[45]⟩) (.agg #[.int .i64 2, .int .i64 5])).run Tryz.prog (w.alloc O7) = .ok () (w.alloc O8) := hO7 ▸ hO8 ▸ put_new Tryz.underlying46 Tryz.underlying9 key_str (operatorsKV.take 7) (by decide) [45] rfl _ _ rfl
  have hp8 : (Instr.mapUpdate 46 (.map (some w.heap.size)) (.string ⟨#[42]⟩) (.agg #[.int .i64 3, .int .i64 6])).run Tryz.prog (w.alloc O8) = .ok () (w.alloc O9) := hO8 ▸ hO9 ▸ put_new Tryz.underlying46 Tryz.underlying9 key_str (operatorsKV.take 8) (by decide) [42] rfl _ _ rfl
  have hp9 : (Instr.mapUpdate 46 (.map (some w.heap.size)) (.string ⟨#[47]⟩) (.agg #[.int .i64 4, .int .i64 6])).run Tryz.prog (w.alloc O9) = .ok () (w.alloc O10) := hO9 ▸ hO10 ▸ put_new Tryz.underlying46 Tryz.underlying9 key_str (operatorsKV.take 9) (by decide) [47] rfl _ _ rfl
  have hp10 : (Instr.mapUpdate 46 (.map (some w.heap.size)) (.string ⟨#[37]⟩) (.agg #[.int .i64 5, .int .i64 6])).run Tryz.prog (w.alloc O10) = .ok () (w.alloc O11) := hO10 ▸ hO11 ▸ put_new Tryz.underlying46 Tryz.underlying9 key_str (operatorsKV.take 10) (by decide) [37] rfl _ _ rfl
  rw [show operatorsKV = operatorsKV.take 11 from rfl, hO11]
  clear hO0 hO1 hO2 hO3 hO4 hO5 hO6 hO7 hO8 hO9 hO10 hO11
  go_enter Tryz.func37, Tryz.ntmps37
  go_wp2
  go_ret
  exact ⟨rfl, rfl⟩
end Go.Proofs.YtbofdfdmikhanaaGreatDoor
namespace Go.Proofs.YtbofdfdmikhanaaGreatDoor
open Go.RowKit
open Go

def spv (p : List UInt8 × Int × Nat) : Value := .agg #[.string ⟨p.1.toArray⟩, .int .i64 ((p.2.2 + 1 : Nat) : Int)]
structure Sp (seen : Array Nat) (kv : List (Int × Value)) : Prop where
  nodup : (kv.map (·.1)).Nodup
  from_ : ∀ q ∈ kv, ∃ j p, opsL[j]? = some p ∧ seen.contains j = true ∧ q = (p.2.1, spv p)
  all : ∀ j p, opsL[j]? = some p → seen.contains j = true → (p.2.1, spv p) ∈ kv
theorem sp_start : Sp #[] [] := ⟨by simp, fun q hq => by simp at hq, fun j p _ h => by simp at h⟩
theorem ops_inj : ∀ i, i < 11 → ∀ j, j < 11 → (opsL.getD i ([], 0, 0)).2.1 = (opsL.getD j ([], 0, 0)).2.1 → i = j := by decide
theorem ops_same {i j : Nat} {p q : List UInt8 × Int × Nat} (hi : opsL[i]? = some p) (hj : opsL[j]? = some q) (h : p.2.1 = q.2.1) : i = j := by
  have e1 : opsL.getD i ([], 0, 0) = p := by simp [List.getD, hi]
  have e2 : opsL.getD j ([], 0, 0) = q := by simp [List.getD, hj]
  exact ops_inj i (List.getElem?_eq_some_iff.1 hi).1 j (List.getElem?_eq_some_iff.1 hj).1 (by rw [e1, e2]; exact h)
theorem Sp.new {seen : Array Nat} {kv : List (Int × Value)} (h : Sp seen kv) {j : Nat} {p : List UInt8 × Int × Nat} (hj : opsL[j]? = some p) (hs : seen.contains j = false) : kv.lookup p.2.1 = none := look_none fun q hq e => by
  obtain ⟨i, p', hi, hsi, rfl⟩ := h.from_ q hq
  have := ops_same hi hj e
  subst this
  rw [hs] at hsi
  cases hsi
theorem Sp.step {seen : Array Nat} {kv : List (Int × Value)} (h : Sp seen kv) {j : Nat} {p : List UInt8 × Int × Nat} (hj : opsL[j]? = some p) (hs : seen.contains j = false) : Sp (seen.push j) (kv ++ [(p.2.1, spv p)]) := by
  refine ⟨?_, fun q hq => ?_, fun i p' hi hsi => ?_⟩
  · rw [List.map_append, List.nodup_append]
    refine ⟨h.nodup, by simp, ?_⟩
    intro a ha b hb e
    simp at hb
    subst hb
    subst e
    obtain ⟨q, hq, hqe⟩ := List.mem_map.1 ha
    obtain ⟨i, p', hi, hsi, rfl⟩ := h.from_ q hq
    have := ops_same hi hj hqe
    subst this
    rw [hs] at hsi
    cases hsi
  · rcases List.mem_append.1 hq with hq | hq
    · obtain ⟨i, p', hi, hsi, rfl⟩ := h.from_ q hq
      exact ⟨i, p', hi, by rw [contains_push, hsi]; rfl, rfl⟩
    · simp at hq
      exact ⟨j, p, hj, by rw [contains_push]; simp, hq⟩
  · rw [contains_push] at hsi
    by_cases e : i = j
    · subst e
      rw [hj] at hi
      cases hi
      simp
    · have : seen.contains i = true := by simpa [e] using hsi
      exact List.mem_append.2 (.inl (h.all i p' hi this))
theorem Sp.done {seen : Array Nat} {kv : List (Int × Value)} (h : Sp seen kv) (ha : ∀ j, j < 11 → seen.contains j = true) : spellOK kv := by
  refine ⟨h.nodup, fun o => ?_⟩
  unfold opOf
  cases hf : opsL.find? (fun p => p.2.1 == o) with
  | none =>
    rw [look_none]
    · rfl
    intro q hq e
    obtain ⟨i, p', hi, hsi, rfl⟩ := h.from_ q hq
    have := List.find?_eq_none.1 hf p' (List.mem_of_getElem? hi)
    simp at this
    exact this e
  | some p =>
    have hm := List.mem_of_find?_eq_some hf
    have ho : p.2.1 = o := by simpa using List.find?_some hf
    obtain ⟨j, hj⟩ := List.getElem?_of_mem hm
    have := h.all j p hj (ha j (List.getElem?_eq_some_iff.1 hj).1)
    rw [ho] at this
    rw [look_mem h.nodup this]
    rfl
abbrev ES : Array MapEntry := ents sk operatorsKV
theorem es_is {e : MapEntry} (h : e ∈ ES.toList) : ∃ j p, opsL[j]? = some p ∧ e = { key := sk p.1, val := .agg #[.int .i64 p.2.1, .int .i64 ((p.2.2 + 1 : Nat) : Int)], born := j } := by
  obtain ⟨i, q, hq, rfl⟩ := ents_mem h
  unfold operatorsKV at hq
  rw [List.getElem?_map] at hq
  cases ho : opsL[i]? with
  | none => rw [ho] at hq; cases hq
  | some p =>
    rw [ho] at hq
    obtain rfl := Option.some.inj hq
    exact ⟨i, p, ho, rfl⟩
theorem es_born : ∀ x ∈ ES.toList, x.born < 11 := fun x hx => by
  obtain ⟨j, p, hj, rfl⟩ := es_is hx
  exact (List.getElem?_eq_some_iff.1 hj).1
theorem es_nodup : (ES.toList.map (·.born)).Nodup := by
  have : ES.toList.map (·.born) = List.range 11 := by rfl
  rw [this]
  exact List.nodup_range
theorem es_done {seen : Array Nat} (h : (leftOf ES seen).size = 0) : ∀ j, j < 11 → seen.contains j = true := fun j hj => by
  obtain ⟨p, hp⟩ : ∃ p, operatorsKV[j]? = some p := ⟨_, List.getElem?_eq_getElem (show j < operatorsKV.length from hj)⟩
  have hm := ents_get (kf := sk) hp
  cases hc : seen.contains j with
  | true => rfl
  | false =>
    have : ({ key := sk p.1, val := p.2, born := j } : MapEntry) ∈ leftOf ES seen := by
      unfold leftOf
      rw [Array.mem_filter]
      exact ⟨Array.mem_toList_iff.1 hm, by show (!seen.contains j) = true; rw [hc]; rfl⟩
    rw [Array.eq_empty_of_size_eq_zero h] at this
    simp at this
end Go.Proofs.YtbofdfdmikhanaaGreatDoor
