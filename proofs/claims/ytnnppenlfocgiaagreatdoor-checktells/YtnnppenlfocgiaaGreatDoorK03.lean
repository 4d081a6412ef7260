/- A map's entries as they lie in memory: what is put in, what is found. Over any program. -/
import Derived.MapKept
import Derived.Laws.IdiomRangeMap
import Derived.Below
namespace Go.Proofs.YtnnppenlfocgiaaGreatDoor
open Go Go.RowKit


/-- A kind of keys. -/
structure KeyK {α : Type} (d : TypeDesc) (kf : α → Value) : Prop where
  inj : ∀ a b, kf a = kf b → a = b
  key : ∀ a, MapKept.IsKey d (kf a)

def ents {α : Type} (kf : α → Value) (kv : List (α × Value)) : Array MapEntry := (kv.mapIdx fun i p => { key := kf p.1, val := p.2, born := i : MapEntry }).toArray
/-- The map with these entries, put in one behind the other. -/
def mapObj {α : Type} (kf : α → Value) (kv : List (α × Value)) : Obj := .map (ents kf kv) kv.length

theorem ents_mem {α : Type} {kf : α → Value} {kv : List (α × Value)} {e : MapEntry} (h : e ∈ (ents kf kv).toList) : ∃ i p, kv[i]? = some p ∧ e = { key := kf p.1, val := p.2, born := i } := by
  unfold ents at h
  simp only [List.mem_mapIdx] at h
  obtain ⟨i, hi, rfl⟩ := h
  exact ⟨i, kv[i], List.getElem?_eq_getElem hi, rfl⟩
theorem ents_get {α : Type} {kf : α → Value} {kv : List (α × Value)} {i : Nat} {p : α × Value} (h : kv[i]? = some p) : ({ key := kf p.1, val := p.2, born := i } : MapEntry) ∈ (ents kf kv).toList := by
  unfold ents
  simp only [List.mem_mapIdx]
  obtain ⟨hi, rfl⟩ := List.getElem?_eq_some_iff.1 h
  exact ⟨i, hi, rfl⟩
theorem ents_push {α : Type} (kf : α → Value) (kv : List (α × Value)) (k : α) (v : Value) : (ents kf kv).push { key := kf k, val := v, born := kv.length } = ents kf (kv ++ [(k, v)]) := by
  unfold ents
  simp
theorem look_mem {α : Type} [BEq α] [LawfulBEq α] {kv : List (α × Value)} {k : α} {v : Value} (hd : (kv.map (·.1)).Nodup) (h : (k, v) ∈ kv) : kv.lookup k = some v := by
  induction kv with
  | nil => simp at h
  | cons p l ih =>
    obtain ⟨k', v'⟩ := p
    simp only [List.map_cons, List.nodup_cons] at hd
    rcases List.mem_cons.1 h with e | h'
    · cases e
      simp [List.lookup]
    · have hne : ¬ k = k' := fun e => hd.1 (by subst e; exact List.mem_map.2 ⟨(k, v), h', rfl⟩)
      rw [List.lookup_cons, beq_false_of_ne hne]
      exact ih hd.2 h'
theorem look_none {α : Type} [BEq α] [LawfulBEq α] {kv : List (α × Value)} {k : α} (h : ∀ p ∈ kv, p.1 ≠ k) : kv.lookup k = none := by
  induction kv with
  | nil => rfl
  | cons p l ih =>
    obtain ⟨k', v'⟩ := p
    have hne : ¬ k = k' := fun e => h (k', v') (by simp) e.symm
    rw [List.lookup_cons, beq_false_of_ne hne]
    exact ih fun q hq => h q (by simp [hq])

theorem find_is {α : Type} [BEq α] [LawfulBEq α] {d : TypeDesc} {kf : α → Value} (hk : KeyK d kf) (kv : List (α × Value)) (hd : (kv.map (·.1)).Nodup) (k : α) :
    ∃ r, Instr.findNow d (kf k) (ents kf kv).toList 0 = some r ∧ r.map (·.2) = kv.lookup k := by
  rcases MapKept.findNow_spec (hk.key k) (ents kf kv).toList 0 (fun x hx => by obtain ⟨i, p, _, rfl⟩ := ents_mem hx; exact hk.key _) with ⟨h1, h2⟩ | ⟨j, e, h1, h2, h3⟩
  · refine ⟨_, h1, ?_⟩
    rw [look_none]
    · rfl
    intro p hp e
    obtain ⟨i, hi⟩ := List.getElem?_of_mem hp
    exact h2 _ (ents_get (kf := kf) hi) (congrArg kf e)
  · refine ⟨_, h1, ?_⟩
    obtain ⟨i, p, hp, rfl⟩ := ents_mem (List.mem_of_getElem? h2)
    have : p.1 = k := hk.inj _ _ h3
    subst this
    rw [look_mem hd (List.mem_of_getElem? hp)]
    rfl

theorem run_look {α : Type} [BEq α] [LawfulBEq α] {P : Program} {w : World} {T K E : TypeId} {d : TypeDesc} {kf : α → Value} {kv : List (α × Value)} {B : Nat} (ht : P.underlying T = some (.map K E)) (hK : P.underlying K = some d) (hk : KeyK d kf) (hm : w.heap[B]? = some (mapObj kf kv)) (hd : (kv.map (·.1)).Nodup) {z : Value} (hz : (zeroValue E).run P w = .ok z w) (k : α) (ok : Bool) :
    (Instr.lookup T (.map (some B)) (kf k) ok).run P w = .ok (if ok then .tuple #[(kv.lookup k).getD z, .bool (kv.lookup k).isSome] else (kv.lookup k).getD z) w := by
  obtain ⟨r, hr, he⟩ := find_is hk kv hd k
  have hc : ∀ b, (Instr.checkKey b 10000 K (kf k)).run P w = .ok () w := fun b => MapKept.run_checkKey hK (hk.key k) b 9999
  unfold mapObj at hm
  rw [← he]
  cases r with
  | none => simp [Instr.lookup, run_underlying ht, MapKept.run_getObj_map hm, hc, MapKept.run_findKey hK hr, Result.andThen, hz]
  | some q =>
    obtain ⟨j, v⟩ := q
    simp [Instr.lookup, run_underlying ht, MapKept.run_getObj_map hm, hc, MapKept.run_findKey hK hr, Result.andThen]
theorem run_put {α : Type} [BEq α] [LawfulBEq α] {P : Program} {w : World} {T K E : TypeId} {d : TypeDesc} {kf : α → Value} {kv : List (α × Value)} {B : Nat} (ht : P.underlying T = some (.map K E)) (hK : P.underlying K = some d) (hk : KeyK d kf) (hm : w.heap[B]? = some (mapObj kf kv)) (hd : (kv.map (·.1)).Nodup) (k : α) (hn : kv.lookup k = none) (v : Value) :
    (Instr.mapUpdate T (.map (some B)) (kf k) v).run P w = .ok () { w with heap := w.heap.setIfInBounds B (mapObj kf (kv ++ [(k, v)])) } := by
  obtain ⟨r, hr, he⟩ := find_is hk kv hd k
  have hc : (Instr.checkKey false 10000 K (kf k)).run P w = .ok () w := MapKept.run_checkKey hK (hk.key k) false 9999
  rw [hn] at he
  cases r with
  | some q => simp at he
  | none =>
    unfold mapObj at hm ⊢
    rw [← ents_push]
    simp [Instr.mapUpdate, run_underlying ht, MapKept.run_getObj_map hm, hc, MapKept.run_findKey hK hr, Result.andThen, MapKept.run_setObj_map _ hm]
theorem key_str : KeyK .string (fun s : List UInt8 => Value.string ⟨s.toArray⟩) := ⟨fun a b h => by simpa using h, fun a => by simp [MapKept.IsKey]⟩
theorem key_i64 : KeyK (.int .i64) (fun n : Int => Value.int .i64 n) := ⟨fun a b h => by simpa using h, fun a => by simp [MapKept.IsKey]⟩

end Go.Proofs.YtnnppenlfocgiaaGreatDoor
