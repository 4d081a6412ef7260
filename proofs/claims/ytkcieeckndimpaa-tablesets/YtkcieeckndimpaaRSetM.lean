/- The document's Set goes from place to place; what it has made is what the program makes: lists alone. -/
import Derived.Test.YtkcieeckndimpaaKeepsA
import Derived.Test.YtkcieeckndimpaaRGet
namespace Go.Proofs.Ytkcieeckndimpaa
open Go.RowKit Go.Shelf
open Go

set_option linter.unusedSectionVars false
variable [DecidableEq Vl]

/-- What is put at place j; fi: the key's place. -/
def piece (k v : Vl) (zs : List (Vl × Vl)) (fi j : Nat) : List (Vl × Vl) := (if j = fi then [(k, v)].filter full else []) ++ (if j = fi then [] else (zs[j]?).toList)
def sofar (k v : Vl) (zs : List (Vl × Vl)) (fi : Nat) : Nat → List (Vl × Vl)
  | 0 => []
  | i + 1 => sofar k v zs fi i ++ piece k v zs fi i

theorem part_id {k v : Vl} {zs : List (Vl × Vl)} (hf : ∀ p ∈ zs, full p = true) (hk : ∀ p ∈ zs, p.1 ≠ k) : part k v zs = zs := by
  unfold part
  have : zs.map (swap k v) = zs := by
    conv => rhs; rw [← List.map_id zs]
    exact List.map_congr_left (fun p hp => swap_ne (hk p hp))
  rw [this]
  exact List.filter_eq_self.2 hf

theorem take_next {zs : List (Vl × Vl)} {i : Nat} : zs.take i ++ (zs[i]?).toList = zs.take (i + 1) := by rw [List.take_add_one]

theorem sofar_before {k v : Vl} {zs : List (Vl × Vl)} {fi : Nat} : ∀ {i : Nat}, i ≤ fi → sofar k v zs fi i = zs.take i
  | 0, _ => by simp [sofar]
  | i + 1, h => by
    rw [sofar, sofar_before (by omega), piece, if_neg (by omega), if_neg (by omega), List.nil_append, take_next]

theorem sofar_behind {k v : Vl} {zs : List (Vl × Vl)} {fi : Nat} : ∀ {d : Nat}, sofar k v zs fi (fi + 1 + d) = zs.take fi ++ ([(k, v)].filter full ++ (zs.drop (fi + 1)).take d)
  | 0 => by
    show sofar k v zs fi fi ++ piece k v zs fi fi = _
    rw [sofar_before (Nat.le_refl _), piece, if_pos rfl, if_pos rfl]
    simp
  | d + 1 => by
    show sofar k v zs fi (fi + 1 + d) ++ piece k v zs fi (fi + 1 + d) = _
    rw [sofar_behind, piece, if_neg (by omega), if_neg (by omega), List.nil_append, List.append_assoc, List.append_assoc]
    congr 2
    rw [List.take_add_one, List.getElem?_drop]

/-- All places: what Set makes. -/
theorem sofar_all {k v : Vl} {zs : List (Vl × Vl)} (hf : ∀ p ∈ zs, full p = true) (hn : (keysOf zs).Nodup) : sofar k v zs (findI (keysOf zs) k) (zs.length + 1) = setZ k v zs := by
  have hle := findI_le (keysOf zs) k
  have hbe := fun j (hj : j < findI (keysOf zs) k) => findI_before hj
  have hge := fun (h : findI (keysOf zs) k < (keysOf zs).length) => findI_get h
  have hlen : (keysOf zs).length = zs.length := by simp [keysOf]
  rw [hlen] at hle hge
  generalize findI (keysOf zs) k = fi at *
  by_cases h : fi < zs.length
  · obtain ⟨p, hp⟩ : ∃ p, zs[fi]? = some p := ⟨zs[fi], by simp [h]⟩
    have hpk : p.1 = k := by
      have := hge h
      simp only [keysOf, List.getElem?_map, hp, Option.map_some, Option.some.injEq] at this
      exact this
    have hs : zs = zs.take fi ++ p :: zs.drop (fi + 1) := by
      obtain ⟨hm, e⟩ := List.getElem?_eq_some_iff.1 hp
      rw [← e, List.getElem_cons_drop, List.take_append_drop]
    have hmet : met k zs = true := met_iff.2 (List.mem_map.2 ⟨p, List.mem_of_getElem? hp, hpk⟩)
    obtain ⟨d, hd⟩ : ∃ d, zs.length + 1 = fi + 1 + d := ⟨zs.length - fi, by omega⟩
    have hdl : (zs.drop (fi + 1)).length ≤ d := by rw [List.length_drop]; omega
    rw [hd, sofar_behind, List.take_of_length_le hdl]
    unfold setZ
    rw [if_pos hmet, List.append_nil]
    have k1 : ∀ q ∈ zs.take fi, q.1 ≠ k := by
      intro q hq e
      obtain ⟨j, hj, e2⟩ := List.mem_take_iff_getElem.1 hq
      refine hbe j (by omega) ?_
      simp only [keysOf, List.getElem?_map]
      rw [List.getElem?_eq_getElem (by omega), e2, ← e]
      rfl
    have k2 : ∀ q ∈ zs.drop (fi + 1), q.1 ≠ k := by
      intro q hq e
      rw [hs, keysOf, List.map_append, List.map_cons] at hn
      have := (List.nodup_cons.1 (List.nodup_append.1 hn).2.1).1
      exact this (by rw [hpk, ← e]; exact List.mem_map.2 ⟨q, hq, rfl⟩)
    have e1 := part_id (v := v) (fun q hq => hf q (List.mem_of_mem_take hq)) k1
    have e2 := part_id (v := v) (fun q hq => hf q (List.mem_of_mem_drop hq)) k2
    have e3 : part k v [p] = [(k, v)].filter full := by unfold part; rw [List.map_singleton, swap_eq hpk]
    have e4 : part k v (zs.take fi ++ ([p] ++ zs.drop (fi + 1))) = zs.take fi ++ ([(k, v)].filter full ++ zs.drop (fi + 1)) := by rw [part_append, part_append, e1, e2, e3]
    rw [← e4]
    exact congrArg (part k v) hs.symm
  · obtain rfl : fi = zs.length := by omega
    rw [sofar, sofar_before (Nat.le_refl _), piece, if_pos rfl, if_pos rfl, List.append_nil, List.take_length]
    have hk : ∀ q ∈ zs, q.1 ≠ k := by
      intro q hq e
      obtain ⟨j, hj, e2⟩ := List.mem_iff_getElem.1 hq
      refine hbe j hj ?_
      simp only [keysOf, List.getElem?_map]
      rw [List.getElem?_eq_getElem hj, e2, ← e]
      rfl
    have hmet : ¬ met k zs = true := fun hm => by
      obtain ⟨q, hq, e⟩ := List.mem_map.1 (met_iff.1 hm)
      exact hk q hq e
    unfold setZ
    rw [if_neg hmet, part_id hf hk]

end Go.Proofs.Ytkcieeckndimpaa
