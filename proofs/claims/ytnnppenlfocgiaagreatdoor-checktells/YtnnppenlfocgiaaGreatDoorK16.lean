/- The words of the language, as they are laid into their maps. Operators by number, as they are put in, in whatever order. The words of the language: the maps that are written out. -/
import Derived.Test.YtnnppenlfocgiaaGreatDoorK12
import Derived.Maps.RangeRun
namespace Go.Proofs.YtnnppenlfocgiaaGreatDoor
open Go.RowKit
open Go

theorem put_new {w : World} {T K E : TypeId} {d : TypeDesc} {α : Type} [BEq α] [LawfulBEq α] {kf : α → Value} (ht : Tryz.prog.underlying T = some (.map K E)) (hK : Tryz.prog.underlying K = some d) (hk : KeyK d kf) (kv : List (α × Value)) (hd : (kv.map (·.1)).Nodup) (k : α) (hn : kv.lookup k = none) (v : Value) (kv' : List (α × Value)) (hkv : kv ++ [(k, v)] = kv') :
    (Instr.mapUpdate T (.map (some w.heap.size)) (kf k) v).run Tryz.prog (w.alloc (mapObj kf kv)) = .ok () (w.alloc (mapObj kf kv')) := by
  subst hkv
  refine (run_put ht hK hk (alloc_new w _) hd k hn v).trans ?_
  have hp : ∀ (h : Array Obj) (x y : Obj), (h.push x).setIfInBounds h.size y = h.push y := by
    intro h x y
    apply Array.toList_inj.1
    simp
  show Result.ok () ({ w.alloc (mapObj kf kv) with heap := (w.heap.push (mapObj kf kv)).setIfInBounds w.heap.size (mapObj kf (kv ++ [(k, v)])) } : World) = _
  rw [hp]
  rfl
theorem mk46 (u : World) : (Instr.makeMap 78 none).run Tryz.prog u = .ok (.map (some u.heap.size)) (u.alloc (mapObj sk [])) := by kernel_rfl
theorem mk45 (u : World) : (Instr.makeMap 77 none).run Tryz.prog u = .ok (.map (some u.heap.size)) (u.alloc (mapObj sk [])) := by kernel_rfl
theorem mk48 (u : World) : (Instr.makeMap 63 none).run Tryz.prog u = .ok (.map (some u.heap.size)) (u.alloc (mapObj sk [])) := by kernel_rfl
theorem mk47 (u : World) : (Instr.makeMap 79 none).run Tryz.prog u = .ok (.map (some u.heap.size)) (u.alloc (mapObj ik [])) := by kernel_rfl
set_option maxRecDepth 20000 in
set_option maxHeartbeats 1000000 in
theorem newOps_any (w : World) : Calls Tryz.prog 62 #[] w fun e w' => e = .returned (.map (some w.heap.size)) ∧ w' = w.alloc (mapObj sk operatorsKV) := by
  have hmk := mk46 w
  obtain ⟨O0, hO0⟩ : ∃ o, mapObj sk (operatorsKV.take 0) = o := ⟨_, rfl⟩
  obtain ⟨O1, hO1⟩ : ∃ o, mapObj sk (operatorsKV.take 1) = o := ⟨_, rfl⟩
  obtain ⟨O2, hO2⟩ : ∃ o, mapObj sk (operatorsKV.take 2) = o := ⟨_, rfl⟩
  obtain ⟨O3, hO3⟩ : ∃ o, mapObj sk (operatorsKV.take 3) = o := ⟨_, rfl⟩
  obtain ⟨O4, hO4⟩ : ∃ o, mapObj sk (operatorsKV.take 4) = o := ⟨_, rfl⟩
  obtain ⟨O5, hO5⟩ : ∃ o, mapObj sk (operatorsKV.take 5) = o := ⟨_, rfl⟩
  obtain ⟨O6, hO6⟩ : ∃ o, mapObj sk (operatorsKV.take 6) = o := ⟨_, rfl⟩
  obtain ⟨O7, hO7⟩ : ∃ o, mapObj sk (operatorsKV.take 7) = o := ⟨_, rfl⟩
  obtain ⟨O8, hO8⟩ : ∃ o, mapObj sk (operatorsKV.take 8) = o := ⟨_, rfl⟩
  obtain ⟨O9, hO9⟩ : ∃ o, mapObj sk (operatorsKV.take 9) = o := ⟨_, rfl⟩
  obtain ⟨O10, hO10⟩ : ∃ o, mapObj sk (operatorsKV.take 10) = o := ⟨_, rfl⟩
  obtain ⟨O11, hO11⟩ : ∃ o, mapObj sk (operatorsKV.take 11) = o := ⟨_, rfl⟩
  rw [show ([] : List (List UInt8 × Value)) = operatorsKV.take 0 from rfl, hO0] at hmk
  have hp0 : (Instr.mapUpdate 78 (.map (some w.heap.size)) (.string ⟨#[111, 114]⟩) (.agg #[.int .i64 21, .int .i64 1])).run Tryz.prog (w.alloc O0) = .ok () (w.alloc O1) := hO0 ▸ hO1 ▸ put_new Tryz.underlying78 Tryz.underlying9 key_str (operatorsKV.take 0) (by decide) [111, 114] rfl _ _ rfl
  have hp1 : (Instr.mapUpdate 78 (.map (some w.heap.size)) (.string ⟨#[97, 110, 100]⟩) (.agg #[.int .i64 20, .int .i64 2])).run Tryz.prog (w.alloc O1) = .ok () (w.alloc O2) := hO1 ▸ hO2 ▸ put_new Tryz.underlying78 Tryz.underlying9 key_str (operatorsKV.take 1) (by decide) [97, 110, 100] rfl _ _ rfl
  have hp2 : (Instr.mapUpdate 78 (.map (some w.heap.size)) (.string ⟨#[61, 61]⟩) (.agg #[.int .i64 7, .int .i64 3])).run Tryz.prog (w.alloc O2) = .ok () (w.alloc O3) := hO2 ▸ hO3 ▸ put_new Tryz.underlying78 Tryz.underlying9 key_str (operatorsKV.take 2) (by decide) [61, 61] rfl _ _ rfl
  have hp3 : (Instr.mapUpdate 78 (.map (some w.heap.size)) (.string ⟨#[60]⟩) (.agg #[.int .i64 8, .int .i64 3])).run Tryz.prog (w.alloc O3) = .ok () (w.alloc O4) := hO3 ▸ hO4 ▸ put_new Tryz.underlying78 Tryz.underlying9 key_str (operatorsKV.take 3) (by decide) [60] rfl _ _ rfl
  have hp4 : (Instr.mapUpdate 78 (.map (some w.heap.size)) (.string ⟨#[60, 61]⟩) (.agg #[.int .i64 9, .int .i64 3])).run Tryz.prog (w.alloc O4) = .ok () (w.alloc O5) := hO4 ▸ hO5 ▸ put_new Tryz.underlying78 Tryz.underlying9 key_str (operatorsKV.take 4) (by decide) [60, 61] rfl _ _ rfl
  have hp5 : (Instr.mapUpdate 78 (.map (some w.heap.size)) (.string ⟨#[46, 46]⟩) (.agg #[.int .i64 6, .int .i64 4])).run Tryz.prog (w.alloc O5) = .ok () (w.alloc O6) := hO5 ▸ hO6 ▸ put_new Tryz.underlying78 Tryz.underlying9 key_str (operatorsKV.take 5) (by decide) [46, 46] rfl _ _ rfl
  have hp6 : (Instr.mapUpdate 78 (.map (some w.heap.size)) (.string ⟨#[43]⟩) (.agg #[.int .i64 1, .int .i64 5])).run Tryz.prog (w.alloc O6) = .ok () (w.alloc O7) := hO6 ▸ hO7 ▸ put_new Tryz.underlying78 Tryz.underlying9 key_str (operatorsKV.take 6) (by decide) [43] rfl _ _ rfl
  have hp7 : (Instr.mapUpdate 78 (.map (some w.heap.size)) (.string ⟨#[45]⟩) (.agg #[.int .i64 2, .int .i64 5])).run Tryz.prog (w.alloc O7) = .ok () (w.alloc O8) := hO7 ▸ hO8 ▸ put_new Tryz.underlying78 Tryz.underlying9 key_str (operatorsKV.take 7) (by decide) [45] rfl _ _ rfl
  have hp8 : (Instr.mapUpdate 78 (.map (some w.heap.size)) (.string ⟨#[42]⟩) (.agg #[.int .i64 3, .int .i64 6])).run Tryz.prog (w.alloc O8) = .ok () (w.alloc O9) := hO8 ▸ hO9 ▸ put_new Tryz.underlying78 Tryz.underlying9 key_str (operatorsKV.take 8) (by decide) [42] rfl _ _ rfl
  have hp9 : (Instr.mapUpdate 78 (.map (some w.heap.size)) (.string ⟨#[47]⟩) (.agg #[.int .i64 4, .int .i64 6])).run Tryz.prog (w.alloc O9) = .ok () (w.alloc O10) := hO9 ▸ hO10 ▸ put_new Tryz.underlying78 Tryz.underlying9 key_str (operatorsKV.take 9) (by decide) [47] rfl _ _ rfl
  have hp10 : (Instr.mapUpdate 78 (.map (some w.heap.size)) (.string ⟨#[37]⟩) (.agg #[.int .i64 5, .int .i64 6])).run Tryz.prog (w.alloc O10) = .ok () (w.alloc O11) := hO10 ▸ hO11 ▸ put_new Tryz.underlying78 Tryz.underlying9 key_str (operatorsKV.take 10) (by decide) [37] rfl _ _ rfl
  rw [show operatorsKV = operatorsKV.take 11 from rfl, hO11]
  clear hO0 hO1 hO2 hO3 hO4 hO5 hO6 hO7 hO8 hO9 hO10 hO11
  go_enter Tryz.func62, Tryz.ntmps62
  go_wp2
  go_ret
  exact ⟨rfl, rfl⟩
end Go.Proofs.YtnnppenlfocgiaaGreatDoor
namespace Go.Proofs.YtnnppenlfocgiaaGreatDoor
open Go.RowKit
open Go

def spv (p : List UInt8 × Int × Nat) : Value := .agg #[.string ⟨p.1.toArray⟩, .int .i64 ((p.2.2 + 1 : Nat) : Int)]
structure Sp (seen : Array Nat) (kv : List (Int × Value)) : Prop where
  nodup : (kv.map (·.1)).Nodup
  from_ : ∀ q ∈ kv, ∃ j p, opsL[j]? = some p ∧ seen.contains j = true ∧ q = (p.2.1, spv p)
  all : ∀ j p, opsL[j]? = some p → seen.contains j = true → (p.2.1, spv p) ∈ kv
theorem sp_start : Sp #[] [] := ⟨by simp, fun q hq => by simp at hq, fun j p _ h => by simp at h⟩
theorem ops_inj : ∀ i, i < 11 → ∀ j, j < 11 → (opsL.getD i ([], 0, 0)).2.1 = (opsL.getD j ([], 0, 0)).2.1 → i = j := by decide
theorem ops_same {i j : Nat} {p q : List UInt8 × Int × Nat} (hi : opsL[i]? = some p) (hj : opsL[j]? = some q) (h : p.2.1 = q.2.1) : i = j := by
  have e1 : opsL.getD i ([], 0, 0) = p := by simp [List.getD, hi]
  have e2 : opsL.getD j ([], 0, 0) = q := by simp [List.getD, hj]
  exact ops_inj i (List.getElem?_eq_some_iff.1 hi).1 j (List.getElem?_eq_some_iff.1 hj).1 (by rw [e1, e2]; exact h)
theorem Sp.new {seen : Array Nat} {kv : List (Int × Value)} (h : Sp seen kv) {j : Nat} {p : List UInt8 × Int × Nat} (hj : opsL[j]? = some p) (hs : seen.contains j = false) : kv.lookup p.2.1 = none := look_none fun q hq e => by
  obtain ⟨i, p', hi, hsi, rfl⟩ := h.from_ q hq
  have := ops_same hi hj e
  subst this
  rw [hs] at hsi
  cases hsi
theorem Sp.step {seen : Array Nat} {kv : List (Int × Value)} (h : Sp seen kv) {j : Nat} {p : List UInt8 × Int × Nat} (hj : opsL[j]? = some p) (hs : seen.contains j = false) : Sp (seen.push j) (kv ++ [(p.2.1, spv p)]) := by
  refine ⟨?_, fun q hq => ?_, fun i p' hi hsi => ?_⟩
  · rw [List.map_append, List.nodup_append]
    refine ⟨h.nodup, by simp, ?_⟩
    intro a ha b hb e
    simp at hb
    subst hb
    subst e
    obtain ⟨q, hq, hqe⟩ := List.mem_map.1 ha
    obtain ⟨i, p', hi, hsi, rfl⟩ := h.from_ q hq
    have := ops_same hi hj hqe
    subst this
    rw [hs] at hsi
    cases hsi
  · rcases List.mem_append.1 hq with hq | hq
    · obtain ⟨i, p', hi, hsi, rfl⟩ := h.from_ q hq
      exact ⟨i, p', hi, by rw [contains_push, hsi]; rfl, rfl⟩
    · simp at hq
      exact ⟨j, p, hj, by rw [contains_push]; simp, hq⟩
  · rw [contains_push] at hsi
    by_cases e : i = j
    · subst e
      rw [hj] at hi
      cases hi
      simp
    · have : seen.contains i = true := by simpa [e] using hsi
      exact List.mem_append.2 (.inl (h.all i p' hi this))
theorem Sp.done {seen : Array Nat} {kv : List (Int × Value)} (h : Sp seen kv) (ha : ∀ j, j < 11 → seen.contains j = true) : spellOK kv := by
  refine ⟨h.nodup, fun o => ?_⟩
  unfold opOf
  cases hf : opsL.find? (fun p => p.2.1 == o) with
  | none =>
    rw [look_none]
    · rfl
    intro q hq e
    obtain ⟨i, p', hi, hsi, rfl⟩ := h.from_ q hq
    have := List.find?_eq_none.1 hf p' (List.mem_of_getElem? hi)
    simp at this
    exact this e
  | some p =>
    have hm := List.mem_of_find?_eq_some hf
    have ho : p.2.1 = o := by simpa using List.find?_some hf
    obtain ⟨j, hj⟩ := List.getElem?_of_mem hm
    have := h.all j p hj (ha j (List.getElem?_eq_some_iff.1 hj).1)
    rw [ho] at this
    rw [look_mem h.nodup this]
    rfl
abbrev ES : Array MapEntry := ents sk operatorsKV
theorem es_is {e : MapEntry} (h : e ∈ ES.toList) : ∃ j p, opsL[j]? = some p ∧ e = { key := sk p.1, val := .agg #[.int .i64 p.2.1, .int .i64 ((p.2.2 + 1 : Nat) : Int)], born := j } := by
  obtain ⟨i, q, hq, rfl⟩ := ents_mem h
  unfold operatorsKV at hq
  rw [List.getElem?_map] at hq
  cases ho : opsL[i]? with
  | none => rw [ho] at hq; cases hq
  | some p =>
    rw [ho] at hq
    obtain rfl := Option.some.inj hq
    exact ⟨i, p, ho, rfl⟩
theorem es_born : ∀ x ∈ ES.toList, x.born < 11 := fun x hx => by
  obtain ⟨j, p, hj, rfl⟩ := es_is hx
  exact (List.getElem?_eq_some_iff.1 hj).1
theorem es_nodup : (ES.toList.map (·.born)).Nodup := by
  have : ES.toList.map (·.born) = List.range 11 := by rfl
  rw [this]
  exact List.nodup_range
theorem es_done {seen : Array Nat} (h : (leftOf ES seen).size = 0) : ∀ j, j < 11 → seen.contains j = true := fun j hj => by
  obtain ⟨p, hp⟩ : ∃ p, operatorsKV[j]? = some p := ⟨_, List.getElem?_eq_getElem (show j < operatorsKV.length from hj)⟩
  have hm := ents_get (kf := sk) hp
  cases hc : seen.contains j with
  | true => rfl
  | false =>
    have : ({ key := sk p.1, val := p.2, born := j } : MapEntry) ∈ leftOf ES seen := by
      unfold leftOf
      rw [Array.mem_filter]
      exact ⟨Array.mem_toList_iff.1 hm, by show (!seen.contains j) = true; rw [hc]; rfl⟩
    rw [Array.eq_empty_of_size_eq_zero h] at this
    simp at this
end Go.Proofs.YtnnppenlfocgiaaGreatDoor
namespace Go.Proofs.YtnnppenlfocgiaaGreatDoor
open Go.RowKit
open Go

/-- What strings.Fields looks up. -/
abbrev SpTab (w : World) : Prop := Lib.TabIs Tryz.prog w "strings.asciiSpace" .u8 Lib.asciiSpaceTab
theorem SpTab.below {w u : World} (h : SpTab w) (hb : Below w.heap.size w u) : SpTab u := by
  have hg : Tryz.prog.globalNamed "strings.asciiSpace" = some 0 := by kernel_rfl
  unfold SpTab Lib.TabIs World.var? at h ⊢
  rw [hg] at h ⊢
  simp only [Option.bind_some] at h ⊢
  have hlt : 0 < w.heap.size := by
    rcases Nat.lt_or_ge 0 w.heap.size with h' | h'
    · exact h'
    · rw [Array.getElem?_eq_none h'] at h
      cases h
  rw [hb.block 0 hlt]
  exact h
abbrev resText : ByteArray := ⟨#[97, 110, 100, 32, 100, 111, 32, 101, 108, 115, 101, 32, 101, 109, 105, 116, 32, 101, 110, 100, 32, 102, 97, 108, 115, 101, 32, 102, 111, 114, 32, 102, 117, 110, 99, 116, 105, 111, 110, 32, 105, 102, 32, 108, 111, 99, 97, 108, 32, 110, 101, 120, 116, 32, 110, 105, 108, 32, 110, 111, 116, 32, 111, 114, 32, 114, 101, 116, 117, 114, 110, 32, 116, 104, 101, 110, 32, 116, 114, 117, 101, 32, 119, 104, 105, 108, 101]⟩
theorem res_fields : Lib.fields resText.data.toList = reserved := by decide
theorem res_ascii : ∀ (j : Nat) b, resText.data.toList[j]? = some b → b.toNat < 128 := fun j b h => by
  have : resText.data.toList.all (fun b => decide (b.toNat < 128)) = true := by decide
  simpa using List.all_eq_true.1 this b (List.mem_of_getElem? h)
theorem res_look (s : List UInt8) (l : List (List UInt8)) (h : l.contains s = false) : (l.map fun s => (s, Value.agg #[])).lookup s = none := look_none fun p hp e => by
  obtain ⟨x, hx, rfl⟩ := List.mem_map.1 hp
  simp only at e
  subst e
  rw [List.contains_iff_mem.2 hx] at h
  cases h
theorem res_new : ∀ i, i < 18 → (reserved.take i).contains (reserved.getD i []) = false := by decide
theorem res_nodup : ∀ i, i < 19 → (reserved.take i).Nodup := by decide
theorem res_put {wr : World} {m1 i : Nat} {s : List UInt8} (hs : reserved[i]? = some s) (hm : wr.heap[m1]? = some (mapObj sk (reservedKV.take i))) : (Instr.mapUpdate 77 (.map (some m1)) (sk s) (.agg #[])).run Tryz.prog wr = .ok () { wr with heap := wr.heap.setIfInBounds m1 (mapObj sk (reservedKV.take (i + 1))) } := by
  have hi : i < 18 := (List.getElem?_eq_some_iff.1 hs).1
  have e1 : reservedKV.take i = (reserved.take i).map fun s => (s, Value.agg #[]) := by unfold reservedKV; rw [List.map_take]
  have e2 : reserved.getD i [] = s := by simp [List.getD, hs]
  have e3 : reservedKV.take i ++ [(s, Value.agg #[])] = reservedKV.take (i + 1) := by
    rw [List.take_add_one]
    congr 1
    unfold reservedKV
    rw [List.getElem?_map, hs]
    rfl
  have hp := run_put (P := Tryz.prog) (w := wr) (T := 77) (K := 9) (E := 75) (kf := sk) (kv := reservedKV.take i) (B := m1) Tryz.underlying77 Tryz.underlying9 key_str hm (by rw [e1, List.map_map, show ((fun x : List UInt8 × Value => x.1) ∘ fun s => (s, Value.agg #[])) = id from rfl, List.map_id]; exact res_nodup i (by omega)) s (by rw [e1]; exact res_look s _ (e2 ▸ res_new i hi)) (.agg #[])
  rw [e3] at hp
  exact hp
abbrev put5 (W : World) (B : Nat) (a b c d e : Value) : World := (put4 W B a b c d).setCell ⟨B, 4, none⟩ e
theorem put5_self (W : World) (B : Nat) (a b c d e : Value) : Keeps (fun k => k = B) W (put5 W B a b c d e) := (put4_self W B a b c d).set B 4 e (fun _ => rfl)
theorem put5_same {W : World} {B : Nat} {a b c d e : Value} (a' b' c' d' e' : Value) (h : W.heap[B]? = some (.cells #[a, b, c, d, e] 81)) : (put5 W B a' b' c' d' e').heap[B]? = some (.cells #[a', b', c', d', e'] 81) := set_block _ (set_block _ (set_block _ (set_block _ (set_block _ h))))
theorem resW18 {tm : Array Value} {W : World} {B : Nat} {a b c d e : Value} (h : tm[0]?.getD undef = .pointer (some ⟨B, 0, none⟩)) (hx : W.heap[B]? = some (.cells #[a, b, c, d, e] 81)) : (results Tryz.f39 tm).run Tryz.prog W = .ok (.agg #[a, b, c, d, e]) W := by
  have c0 : W.cell? ⟨B, 0, none⟩ = some a := cell_block hx rfl
  have c1 : W.cell? ⟨B, 1, none⟩ = some b := cell_block hx rfl
  have c2 : W.cell? ⟨B, 2, none⟩ = some c := cell_block hx rfl
  have c3 : W.cell? ⟨B, 3, none⟩ = some d := cell_block hx rfl
  have c4 : W.cell? ⟨B, 4, none⟩ = some e := cell_block hx rfl
  simp [results, Tryz.results39, go_sem, h, c0, c1, c2, c3, c4]
theorem iter_seen {W : World} {r : Nat} {a : Option Nat} {b : Nat} {s : Array Nat} {c : Nat} (h : W.heap[r]? = some (.mapIter a b s c)) : W.iterSeen r = s := by
  unfold World.iterSeen
  rw [h]
theorem setObj_keeps (W : World) (m : Nat) (o : Obj) : Keeps (fun q => q = m) W { W with heap := W.heap.setIfInBounds m o } := ⟨rfl, rfl, rfl, by simp, fun k hk hn => by
  show (W.heap.setIfInBounds m o)[k]? = _
  rw [Array.getElem?_setIfInBounds]
  rw [if_neg (fun e => hn e.symm)]⟩
theorem setObj_at {W : World} {m : Nat} {o o' : Obj} (h : W.heap[m]? = some o') : ({ W with heap := W.heap.setIfInBounds m o } : World).heap[m]? = some o := by
  have := block_lt h
  show (W.heap.setIfInBounds m o)[m]? = _
  rw [Array.getElem?_setIfInBounds, if_pos rfl, if_pos this]
set_option maxRecDepth 20000 in
set_option maxHeartbeats 1000000 in
theorem newWords_any (w : World) (hT : SpTab w) : Calls Tryz.prog 39 #[] w fun e w' => ∃ m1 m2 m3 m4 m5, e = .returned (.agg #[.map (some m1), .map (some m2), .map (some m3), .map (some m4), .map (some m5)]) ∧ Wd w' w'.heap.size m1 m2 m3 m4 m5 ∧ Below w.heap.size w w' := by
  have z1 := alloc_new w (.cells #[.map none, .map none, .map none, .map none, .map none] 81)
  have b1 := ext_alloc (Below.refl w.heap.size w) (.cells #[.map none, .map none, .map none, .map none, .map none] 81)
  obtain ⟨A1, hA1⟩ : ∃ A, w.alloc (.cells #[.map none, .map none, .map none, .map none, .map none] 81) = A := ⟨_, rfl⟩
  have s1 : A1.heap.size = w.heap.size + 1 := by rw [← hA1]; simp
  rw [hA1] at z1 b1
  have z2 := alloc_new A1 (mapObj sk [])
  have b2 := ext_alloc b1 (mapObj sk [])
  have x2 := ext_alloc (Below.refl A1.heap.size A1) (mapObj sk [])
  obtain ⟨A2, hA2⟩ : ∃ A, A1.alloc (mapObj sk []) = A := ⟨_, rfl⟩
  have s2 : A2.heap.size = w.heap.size + 1 + 1 := by rw [← hA2, World.size_alloc, s1]
  rw [hA2, s1] at z2
  rw [hA2] at b2 x2
  have k1 := mk45 A1
  rw [hA2, s1] at k1
  have z3 := alloc_new A2 (mapObj sk operatorsKV)
  have b3 := ext_alloc b2 (mapObj sk operatorsKV)
  have x3 := ext_alloc (Below.refl A2.heap.size A2) (mapObj sk operatorsKV)
  obtain ⟨A3, hA3⟩ : ∃ A, A2.alloc (mapObj sk operatorsKV) = A := ⟨_, rfl⟩
  have s3 : A3.heap.size = w.heap.size + 1 + 1 + 1 := by rw [← hA3, World.size_alloc, s2]
  rw [hA3, s2] at z3
  rw [hA3] at b3 x3
  have c2 := newOps_any A2
  rw [hA3, s2] at c2
  have z4 := alloc_new A3 (mapObj ik [])
  have b4 := ext_alloc b3 (mapObj ik [])
  have x4 := ext_alloc (Below.refl A3.heap.size A3) (mapObj ik [])
  obtain ⟨A4, hA4⟩ : ∃ A, A3.alloc (mapObj ik []) = A := ⟨_, rfl⟩
  have s4 : A4.heap.size = w.heap.size + 1 + 1 + 1 + 1 := by rw [← hA4, World.size_alloc, s3]
  rw [hA4, s3] at z4
  rw [hA4] at b4 x4
  have k3 := mk47 A3
  rw [hA4, s3] at k3
  obtain ⟨O40, hO40⟩ : ∃ o, mapObj sk (signsKV.take 0) = o := ⟨_, rfl⟩
  obtain ⟨O41, hO41⟩ : ∃ o, mapObj sk (signsKV.take 1) = o := ⟨_, rfl⟩
  obtain ⟨O42, hO42⟩ : ∃ o, mapObj sk (signsKV.take 2) = o := ⟨_, rfl⟩
  obtain ⟨O43, hO43⟩ : ∃ o, mapObj sk (signsKV.take 3) = o := ⟨_, rfl⟩
  have k4 := mk48 A4
  rw [show ([] : List (List UInt8 × Value)) = signsKV.take 0 from rfl, hO40, s4] at k4
  have p40 : (Instr.mapUpdate 63 (.map (some (w.heap.size + 1 + 1 + 1 + 1))) (.string ⟨#[45]⟩) (.int .i64 24)).run Tryz.prog (A4.alloc O40) = .ok () (A4.alloc O41) := s4 ▸ hO40 ▸ hO41 ▸ put_new Tryz.underlying63 Tryz.underlying9 key_str (signsKV.take 0) (by decide) [45] rfl _ _ rfl
  have p41 : (Instr.mapUpdate 63 (.map (some (w.heap.size + 1 + 1 + 1 + 1))) (.string ⟨#[110, 111, 116]⟩) (.int .i64 23)).run Tryz.prog (A4.alloc O41) = .ok () (A4.alloc O42) := s4 ▸ hO41 ▸ hO42 ▸ put_new Tryz.underlying63 Tryz.underlying9 key_str (signsKV.take 1) (by decide) [110, 111, 116] rfl _ _ rfl
  have p42 : (Instr.mapUpdate 63 (.map (some (w.heap.size + 1 + 1 + 1 + 1))) (.string ⟨#[35]⟩) (.int .i64 25)).run Tryz.prog (A4.alloc O42) = .ok () (A4.alloc O43) := s4 ▸ hO42 ▸ hO43 ▸ put_new Tryz.underlying63 Tryz.underlying9 key_str (signsKV.take 2) (by decide) [35] rfl _ _ rfl
  have z5 := alloc_new A4 (mapObj sk signsKV)
  have b5 := ext_alloc b4 (mapObj sk signsKV)
  have x5 := ext_alloc (Below.refl A4.heap.size A4) (mapObj sk signsKV)
  obtain ⟨A5, hA5⟩ : ∃ A, A4.alloc (mapObj sk signsKV) = A := ⟨_, rfl⟩
  have s5 : A5.heap.size = w.heap.size + 1 + 1 + 1 + 1 + 1 := by rw [← hA5, World.size_alloc, s4]
  rw [hA5, s4] at z5
  rw [hA5] at b5 x5
  rw [show signsKV = signsKV.take 3 from rfl, hO43] at hA5
  clear hO40 hO41 hO42 hO43
  obtain ⟨O50, hO50⟩ : ∃ o, mapObj sk (atomsKV.take 0) = o := ⟨_, rfl⟩
  obtain ⟨O51, hO51⟩ : ∃ o, mapObj sk (atomsKV.take 1) = o := ⟨_, rfl⟩
  obtain ⟨O52, hO52⟩ : ∃ o, mapObj sk (atomsKV.take 2) = o := ⟨_, rfl⟩
  obtain ⟨O53, hO53⟩ : ∃ o, mapObj sk (atomsKV.take 3) = o := ⟨_, rfl⟩
  have k5 := mk48 A5
  rw [show ([] : List (List UInt8 × Value)) = atomsKV.take 0 from rfl, hO50, s5] at k5
  have p50 : (Instr.mapUpdate 63 (.map (some (w.heap.size + 1 + 1 + 1 + 1 + 1))) (.string ⟨#[110, 105, 108]⟩) (.int .i64 15)).run Tryz.prog (A5.alloc O50) = .ok () (A5.alloc O51) := s5 ▸ hO50 ▸ hO51 ▸ put_new Tryz.underlying63 Tryz.underlying9 key_str (atomsKV.take 0) (by decide) [110, 105, 108] rfl _ _ rfl
  have p51 : (Instr.mapUpdate 63 (.map (some (w.heap.size + 1 + 1 + 1 + 1 + 1))) (.string ⟨#[116, 114, 117, 101]⟩) (.int .i64 16)).run Tryz.prog (A5.alloc O51) = .ok () (A5.alloc O52) := s5 ▸ hO51 ▸ hO52 ▸ put_new Tryz.underlying63 Tryz.underlying9 key_str (atomsKV.take 1) (by decide) [116, 114, 117, 101] rfl _ _ rfl
  have p52 : (Instr.mapUpdate 63 (.map (some (w.heap.size + 1 + 1 + 1 + 1 + 1))) (.string ⟨#[102, 97, 108, 115, 101]⟩) (.int .i64 17)).run Tryz.prog (A5.alloc O52) = .ok () (A5.alloc O53) := s5 ▸ hO52 ▸ hO53 ▸ put_new Tryz.underlying63 Tryz.underlying9 key_str (atomsKV.take 2) (by decide) [102, 97, 108, 115, 101] rfl _ _ rfl
  have z6 := alloc_new A5 (mapObj sk atomsKV)
  have b6 := ext_alloc b5 (mapObj sk atomsKV)
  have x6 := ext_alloc (Below.refl A5.heap.size A5) (mapObj sk atomsKV)
  obtain ⟨A6, hA6⟩ : ∃ A, A5.alloc (mapObj sk atomsKV) = A := ⟨_, rfl⟩
  have s6 : A6.heap.size = w.heap.size + 1 + 1 + 1 + 1 + 1 + 1 := by rw [← hA6, World.size_alloc, s5]
  rw [hA6, s5] at z6
  rw [hA6] at b6 x6
  rw [show atomsKV = atomsKV.take 3 from rfl, hO53] at hA6
  clear hO50 hO51 hO52 hO53
  have hB6 := b6
  have hz2 : A6.heap[w.heap.size + 1]? = some (mapObj sk []) := block_below x6 (block_below x5 (block_below x4 (block_below x3 z2)))
  have hz3 : A6.heap[w.heap.size + 1 + 1]? = some (mapObj sk operatorsKV) := block_below x6 (block_below x5 (block_below x4 z3))
  have hz4 : A6.heap[w.heap.size + 1 + 1 + 1]? = some (mapObj ik []) := block_below x6 (block_below x5 z4)
  have hz5 : A6.heap[w.heap.size + 1 + 1 + 1 + 1]? = some (mapObj sk signsKV) := block_below x6 z5
  have hz1 : A6.heap[w.heap.size]? = some (.cells #[.map none, .map none, .map none, .map none, .map none] 81) := block_below x6 (block_below x5 (block_below x4 (block_below x3 (block_below x2 z1))))
  go_enter Tryz.func39, Tryz.ntmps39
  go_wp2_with (first | (go_at_call 62; refine c2.mono ?_; rintro e w1 ⟨rfl, rfl⟩) | (go_at_call 63; refine Hid.out ?_))
  clear c2 k1 k3 k4 k5 p40 p41 p42 p50 p51 p52 hA1 hA2 hA3 hA4 hA5 hA6 z1 z2 z3 z4 z5 x2 x3 x4 x5 x6 b1 b2 b3 b4 b5 b6 s1 s2 s3 s4 s5
  have xb := ext_alloc (Below.refl A6.heap.size A6) (.cells #[.map (some (w.heap.size + 1)), .map (some (w.heap.size + 1 + 1)), .map (some (w.heap.size + 1 + 1 + 1)), .map (some (w.heap.size + 1 + 1 + 1 + 1)), .map (some (w.heap.size + 1 + 1 + 1 + 1 + 1))] 81)
  have zb := alloc_new A6 (.cells #[.map (some (w.heap.size + 1)), .map (some (w.heap.size + 1 + 1)), .map (some (w.heap.size + 1 + 1 + 1)), .map (some (w.heap.size + 1 + 1 + 1 + 1)), .map (some (w.heap.size + 1 + 1 + 1 + 1 + 1))] 81)
  obtain ⟨U, hU⟩ : ∃ U, A6.alloc (.cells #[.map (some (w.heap.size + 1)), .map (some (w.heap.size + 1 + 1)), .map (some (w.heap.size + 1 + 1 + 1)), .map (some (w.heap.size + 1 + 1 + 1 + 1)), .map (some (w.heap.size + 1 + 1 + 1 + 1 + 1))] 81) = U := ⟨_, rfl⟩
  have sU : U.heap.size = w.heap.size + 1 + 1 + 1 + 1 + 1 + 1 + 1 := by rw [← hU, World.size_alloc, s6]
  rw [hU] at xb zb ⊢
  rw [s6] at zb
  have hBU := ext_trans hB6 xb
  replace hz1 := block_below xb hz1
  replace hz2 := block_below xb hz2
  replace hz3 := block_below xb hz3
  replace hz4 := block_below xb hz4
  replace hz5 := block_below xb hz5
  replace z6 := block_below xb z6
  have hF := Tryz.strings_Fields resText U (by decide) res_ascii (hT.below hBU)
  rw [res_fields, show reserved.length = 18 from rfl] at hF
  have hst := alloc_new U (.cells ((reserved.map fun l => Value.string ⟨l.toArray⟩).toArray) 9)
  have xs := ext_alloc (Below.refl U.heap.size U) (.cells ((reserved.map fun l => Value.string ⟨l.toArray⟩).toArray) 9)
  obtain ⟨V, hV⟩ : ∃ V, U.alloc (.cells ((reserved.map fun l => Value.string ⟨l.toArray⟩).toArray) 9) = V := ⟨_, rfl⟩
  rw [hV] at hF hst xs
  have sV : V.heap.size = w.heap.size + 1 + 1 + 1 + 1 + 1 + 1 + 1 + 1 := by rw [← hV, World.size_alloc, sU]
  have hBV := ext_trans hBU xs
  replace hz1 := block_below xs hz1
  replace hz2 := block_below xs hz2
  replace hz3 := block_below xs hz3
  replace hz4 := block_below xs hz4
  replace hz5 := block_below xs hz5
  replace z6 := block_below xs z6
  replace zb := block_below xs zb
  obtain ⟨c, hc⟩ : ∃ m, U.heap.size = m := ⟨_, rfl⟩
  rw [hc] at hF hst
  rw [hc] at sU
  clear hU hV xs xb hc hBU hB6 s6 hT
  obtain ⟨tb, htb⟩ : ∃ m, w.heap.size + 1 + 1 + 1 + 1 + 1 + 1 = m := ⟨_, rfl⟩
  rw [htb] at zb sU sV ⊢
  obtain ⟨m5, hm5⟩ : ∃ m, w.heap.size + 1 + 1 + 1 + 1 + 1 = m := ⟨_, rfl⟩
  rw [hm5] at zb z6 htb ⊢
  obtain ⟨m4, hm4⟩ : ∃ m, w.heap.size + 1 + 1 + 1 + 1 = m := ⟨_, rfl⟩
  rw [hm4] at zb hz5 hm5 ⊢
  obtain ⟨m3, hm3⟩ : ∃ m, w.heap.size + 1 + 1 + 1 = m := ⟨_, rfl⟩
  rw [hm3] at zb hz4 hm4 ⊢
  obtain ⟨m2, hm2⟩ : ∃ m, w.heap.size + 1 + 1 = m := ⟨_, rfl⟩
  rw [hm2] at zb hz3 hm3 ⊢
  obtain ⟨m1, hm1⟩ : ∃ m, w.heap.size + 1 = m := ⟨_, rfl⟩
  rw [hm1] at zb hz2 hm2 ⊢
  refine Lib.hid ?_
  go_wp2_with (go_at_call 63; refine hF.mono ?_; rintro e w1 ⟨rfl, hwV⟩)
  subst hwV
  subst sU
  go_loopw [16] (fun ix wr => ∃ i : Nat, i ≤ 18 ∧ ix = .int .i64 (i : Nat) ∧ wr.heap[m1]? = some (mapObj sk (reservedKV.take i)) ∧ Keeps (fun q => q = m1) w1 wr) (fun ix _ => 18 - (intOf ix).toNat)
  case atStart => exact ⟨0, by omega, rfl, hz2, Keeps.refl _ _⟩
  case round =>
    obtain ⟨i, hi, rfl, hm, hk⟩ := hrel
    have hbx := hk.box zb (by omega)
    have y0 : wr.cell? ⟨tb, 0, none⟩ = some (.map (some m1)) := cell_block hbx rfl
    have y1 : wr.cell? ⟨tb, 1, none⟩ = some (.map (some m2)) := cell_block hbx rfl
    by_cases hlt : i < 18
    · obtain ⟨s, hs⟩ : ∃ s, reserved[i]? = some s := ⟨_, List.getElem?_eq_getElem (show i < reserved.length from hlt)⟩
      have hlt' : (i : Int) < 18 := by omega
      have hcell : wr.cell? ⟨tb + 1, i, none⟩ = some (sk s) := hk.cell (cell_block hst (by simp [hs])) (by omega)
      have hp := res_put hs hm
      have hk2 := setObj_keeps wr m1 (mapObj sk (reservedKV.take (i + 1)))
      have hm2' := setObj_at (o := mapObj sk (reservedKV.take (i + 1))) hm
      obtain ⟨W', hW'⟩ : ∃ W', ({ wr with heap := wr.heap.setIfInBounds m1 (mapObj sk (reservedKV.take (i + 1))) } : World) = W' := ⟨_, rfl⟩
      rw [hW'] at hp hk2 hm2'
      clear hW' hs hbx
      go_wp2
      go_roundw
      case rel => exact ⟨i + 1, by omega, by go_num, hm2', hk.then hk2 (fun q _ e => e)⟩
      case measure => simp [intOf]; omega
    · have hge : ¬ (i : Int) < 18 := by omega
      obtain rfl : i = 18 := by omega
      have hbm : wr.heap[m2]? = some (.map ES 11) := hk.box hz3 (by omega)
      have hr := run_range_map (P := Tryz.prog) wr 78 9 104 m2 ES 11 Tryz.underlying78 hbm
      have hit := alloc_new wr (.mapIter (some m2) 11 #[] 11)
      have xit := ext_alloc (Below.refl wr.heap.size wr) (.mapIter (some m2) 11 #[] 11)
      have hzm3 := block_below xit (hk.box hz4 (by omega))
      have hbm' := block_below xit hbm
      have hbx' := block_below xit hbx
      have hzr : w1.heap.size ≤ wr.heap.size := hk.size
      have hX1 := block_below xit hm
      have hX4 := block_below xit (hk.box hz5 (by omega))
      have hX5 := block_below xit (hk.box z6 (by omega))
      have hXa := block_below xit (hk.box hz1 (by omega))
      have hK0 : Keeps no w (wr.alloc (.mapIter (some m2) 11 #[] 11)) := ((Keeps.of_below hBV).then hk (fun q hq e => by omega)).trans (Keeps.of_below xit)
      rw [show reservedKV.take 18 = reservedKV from rfl] at hX1
      go_wp2
      obtain ⟨X, hX⟩ : ∃ X, wr.alloc (.mapIter (some m2) 11 #[] 11) = X := ⟨_, rfl⟩
      rw [hX] at hit hzm3 hbm' xit hbx' hX1 hX4 hX5 hXa hK0
      obtain ⟨it, hit2⟩ : ∃ m, wr.heap.size = m := ⟨_, rfl⟩
      rw [hit2] at hit hzr
      rw [hX, hit2]
      clear hr y0 y1 hX hbm
      go_loopw [28] (fun _ wq => ∃ seen kv, wq.heap[it]? = some (.mapIter (some m2) 11 seen 11) ∧ wq.heap[m3]? = some (mapObj ik kv) ∧ Sp seen kv ∧ Keeps (fun q => q = m3 ∨ q = it) X wq) (fun _ wq => (leftOf ES (wq.iterSeen it)).size)
      case atStart => exact ⟨#[], [], hit, hzm3, sp_start, Keeps.refl _ _⟩
      case round =>
        obtain ⟨seen, kv, hI, hM, hS, hK⟩ := hrel
        have hbm2 := hK.box hbm' (by omega)
        have hbx2 := hK.box hbx' (by omega)
        rcases run_next_at (P := Tryz.prog) wr 0 it m2 11 11 seen ES 11 hI hbm2 es_born (Nat.le_refl _) with ⟨h0, hn⟩ | ⟨e, he, w3, hw3, hn⟩
        · have hKF := hK0.then hK (fun q hq e => by omega)
          have ha := hK.box hXa (by omega)
          have l0 : wr.cell? ⟨tb, 0, none⟩ = some (.map (some m1)) := cell_block hbx2 rfl
          have l1 : wr.cell? ⟨tb, 1, none⟩ = some (.map (some m2)) := cell_block hbx2 rfl
          have l2 : wr.cell? ⟨tb, 2, none⟩ = some (.map (some m3)) := cell_block hbx2 rfl
          have l3 : wr.cell? ⟨tb, 3, none⟩ = some (.map (some m4)) := cell_block hbx2 rfl
          have l4 : wr.cell? ⟨tb, 4, none⟩ = some (.map (some m5)) := cell_block hbx2 rfl
          have a0 : wr.cell? ⟨w.heap.size, 0, none⟩ = some (.map none) := cell_block ha rfl
          have a1 : wr.cell? ⟨w.heap.size, 1, none⟩ = some (.map none) := cell_block ha rfl
          have a2 : wr.cell? ⟨w.heap.size, 2, none⟩ = some (.map none) := cell_block ha rfl
          have a3 : wr.cell? ⟨w.heap.size, 3, none⟩ = some (.map none) := cell_block ha rfl
          have a4 : wr.cell? ⟨w.heap.size, 4, none⟩ = some (.map none) := cell_block ha rfl
          have f0 : wr.frozen? ⟨w.heap.size, 0, none⟩ = false := frozen_block ha
          have f1 : wr.frozen? ⟨w.heap.size, 1, none⟩ = false := frozen_block ha
          have f2 : wr.frozen? ⟨w.heap.size, 2, none⟩ = false := frozen_block ha
          have f3 : wr.frozen? ⟨w.heap.size, 3, none⟩ = false := frozen_block ha
          have f4 : wr.frozen? ⟨w.heap.size, 4, none⟩ = false := frozen_block ha
          have hsp := hS.done (es_done h0)
          have r1 := hK.box hX1 (by omega)
          have r4 := hK.box hX4 (by omega)
          have r5 := hK.box hX5 (by omega)
          go_wp2
          have hk5 : Keeps (fun q => q = w.heap.size) wr (put5 wr w.heap.size (.map (some m1)) (.map (some m2)) (.map (some m3)) (.map (some m4)) (.map (some m5))) := put5_self _ _ _ _ _ _ _
          have hsz := hk5.size
          have hlt9 := block_lt r5
          refine bodyPost_ret (resW18 rfl (put5_same _ _ _ _ _ ha)) rfl ⟨m1, m2, m3, m4, m5, rfl, ?_, (hKF.then hk5 (fun q hq e => by omega)).below (Nat.le_refl _) (fun _ _ => id)⟩
          exact ⟨Nat.lt_of_lt_of_le (by omega) hsz, Nat.lt_of_lt_of_le (by omega) hsz, Nat.lt_of_lt_of_le (by omega) hsz, Nat.lt_of_lt_of_le (by omega) hsz, Nat.lt_of_lt_of_le (by omega) hsz, hk5.box r1 (by omega), hk5.box hbm2 (by omega), ⟨kv, hsp, hk5.box hM (by omega)⟩, hk5.box r4 (by omega), hk5.box r5 (by omega)⟩
        · have hs := left_shrinks ES seen e he
          obtain ⟨j, p, hj, rfl⟩ := es_is (mem_left he).1
          have hsj := (mem_left he).2
          have hm0 := (mem_left he).1
          obtain ⟨wd0, num, lv⟩ := p
          simp only at hn hs hsj hm0
          have hk3 : Keeps (fun q => q = it) wr (ChangeMaps.setBlock w3 it (.mapIter (some m2) 11 (seen.push j) 11)) := by
            rcases hw3 with rfl | rfl
            · exact setObj_keeps _ _ _
            · exact (Keeps.refl _ _).drew.trans (setObj_keeps _ _ _)
          have hI3 : (ChangeMaps.setBlock w3 it (.mapIter (some m2) 11 (seen.push j) 11)).heap[it]? = some (.mapIter (some m2) 11 (seen.push j) 11) := by
            rcases hw3 with rfl | rfl
            · exact setObj_at hI
            · exact setObj_at (W := wr.drew) hI
          obtain ⟨X3, hX3⟩ : ∃ x, ChangeMaps.setBlock w3 it (.mapIter (some m2) 11 (seen.push j) 11) = x := ⟨_, rfl⟩
          rw [hX3] at hn hk3 hI3
          clear hX3 hw3
          have hen := run_entry_at (P := Tryz.prog) X3 it m2 11 seen ES 11 _ hI3 (hk3.box hbm2 (by omega)) hm0 es_nodup
          simp only at hen
          obtain ⟨bb, hbb⟩ : ∃ b : Int, ((lv + 1 : Nat) : Int) = b := ⟨_, rfl⟩
          rw [hbb] at hn hen
          have hb4 := ext_alloc (Below.refl X3.heap.size X3) (.cells #[.int .i64 num, .int .i64 bb] 104)
          have hI4 := block_below hb4 hI3
          have hM4 := block_below hb4 (hk3.box hM (by omega))
          have hbx4 := block_below hb4 (hk3.box hbx2 (by omega))
          have g4 := alloc_new X3 (.cells #[.int .i64 num, .int .i64 bb] 104)
          obtain ⟨X4, hX4⟩ : ∃ x, X3.alloc (.cells #[.int .i64 num, .int .i64 bb] 104) = x := ⟨_, rfl⟩
          rw [hX4] at hb4 hI4 hM4 hbx4 g4
          have hp := run_put (P := Tryz.prog) (w := X4) (T := 79) (K := 2) (E := 106) (kf := ik) (kv := kv) (B := m3) Tryz.underlying79 Tryz.underlying2 key_i64 hM4 hS.nodup num (hS.new hj hsj) (.agg #[.string ⟨wd0.toArray⟩, .int .i64 bb])
          have hk5 := setObj_keeps X4 m3 (mapObj ik (kv ++ [(num, .agg #[.string ⟨wd0.toArray⟩, .int .i64 bb])]))
          have hM5 := setObj_at (o := mapObj ik (kv ++ [(num, .agg #[.string ⟨wd0.toArray⟩, .int .i64 bb])])) hM4
          obtain ⟨X5, hX5⟩ : ∃ x, ({ X4 with heap := X4.heap.setIfInBounds m3 (mapObj ik (kv ++ [(num, .agg #[.string ⟨wd0.toArray⟩, .int .i64 bb])])) } : World) = x := ⟨_, rfl⟩
          rw [hX5] at hp hk5 hM5
          clear hX5
          have v2 : X4.cell? ⟨tb, 2, none⟩ = some (.map (some m3)) := cell_block hbx4 rfl
          have v3 : X4.cell? ⟨X3.heap.size, 0, none⟩ = some (.int .i64 num) := cell_block g4 rfl
          have v4 : X4.cell? ⟨X3.heap.size, 1, none⟩ = some (.int .i64 bb) := cell_block g4 rfl
          have hI5 := hk5.box hI4 (by omega)
          have hSn := hS.step hj hsj
          have hSe : spv (wd0, num, lv) = .agg #[.string ⟨wd0.toArray⟩, .int .i64 bb] := by rw [← hbb]; rfl
          rw [hSe] at hSn
          have hK5 := ((hK.then hk3 (fun q _ e => .inr e)).trans (Keeps.of_below hb4)).then hk5 (fun q _ e => .inl e)
          have hms : (leftOf ES (X5.iterSeen it)).size < (leftOf ES (wr.iterSeen it)).size := by
            rw [iter_seen hI5, iter_seen hI]; exact hs
          clear hbx2 hbm2 hI hM hS hK hk3 hI3 hM4 hbx4 g4 hb4 hI4 hk5 hs hj hsj hm0 hSe hbb he
          go_wp2
          go_roundw
          case rel => exact ⟨_, _, hI5, hM5, hSn, hK5⟩
          case measure => exact hms
end Go.Proofs.YtnnppenlfocgiaaGreatDoor
