/- What Set keeps: the lists. -/
import Derived.Test.YtkcieeckndimpaaSetA
import Derived.Test.YtkcieeckndimpaaFind
namespace Go.Proofs.Ytkcieeckndimpaa
open Go.RowKit Go.Shelf
open Go

set_option linter.unusedSectionVars false
variable [DecidableEq Vl]

theorem swap_key (k v : Vl) (p : Vl × Vl) : (swap k v p).1 = p.1 := by unfold swap; split <;> rfl
theorem swap_ne {k v : Vl} {p : Vl × Vl} (h : p.1 ≠ k) : swap k v p = p := by unfold swap; rw [if_neg h]
theorem swap_eq {k v : Vl} {p : Vl × Vl} (h : p.1 = k) : swap k v p = (k, v) := by unfold swap; rw [if_pos h, h]
theorem part_append (k v : Vl) (a b : List (Vl × Vl)) : part k v (a ++ b) = part k v a ++ part k v b := by simp [part]

theorem part_keys (k v : Vl) (zs : List (Vl × Vl)) : (keysOf (part k v zs)).Sublist (keysOf zs) := by
  have h1 : (part k v zs).Sublist (zs.map (swap k v)) := List.filter_sublist
  have h2 := h1.map Prod.fst
  have h3 : (zs.map (swap k v)).map Prod.fst = keysOf zs := by
    rw [List.map_map]
    exact List.map_congr_left (fun p _ => swap_key k v p)
  rw [h3] at h2
  exact h2

theorem met_iff {k : Vl} {zs : List (Vl × Vl)} : met k zs = true ↔ k ∈ keysOf zs := by
  simp [met, keysOf]

theorem nil_of_may {v : Vl} (h : mayB v.k v.n v.s = true) (h0 : v.k = 0) : v = nilV := by
  unfold mayB at h
  rcases Bool.eq_false_or_eq_true v.s.toList.isEmpty with he | he
  · simp [h0, he] at h
    exact Vl.ext' h0 h (by rw [List.isEmpty_iff.1 he, ByteArray.toList_eq]; rfl)
  · simp [h0, he] at h

theorem part_mem {k v : Vl} {zs : List (Vl × Vl)} {p : Vl × Vl} (h : p ∈ part k v zs) : p.1 ∈ keysOf zs ∧ (p.2 = v ∧ p.2.k ≠ 0 ∨ p ∈ zs) := by
  simp only [part, List.mem_filter, List.mem_map] at h
  obtain ⟨⟨q, hq, rfl⟩, hf⟩ := h
  refine ⟨by rw [swap_key]; exact List.mem_map.2 ⟨q, hq, rfl⟩, ?_⟩
  by_cases e : q.1 = k
  · rw [swap_eq e] at hf ⊢
    exact .inl ⟨rfl, by simpa [full] using hf⟩
  · rw [swap_ne e]; exact .inr hq

theorem setZ_keys_nodup {k v : Vl} {zs : List (Vl × Vl)} (h : (keysOf zs).Nodup) : (keysOf (setZ k v zs)).Nodup := by
  unfold setZ
  by_cases hm : met k zs = true
  · rw [if_pos hm, List.append_nil]
    exact h.sublist (part_keys k v zs)
  · rw [if_neg hm, keysOf, List.map_append]
    refine List.nodup_append.2 ⟨h.sublist (part_keys k v zs), ?_, fun a ha c hc e => ?_⟩
    · cases hf : full (k, v) <;> simp [hf]
    · have hck : c = k := by
        obtain ⟨q, hq, rfl⟩ := List.mem_map.1 hc
        have := (List.mem_filter.1 hq).1
        simp at this
        rw [this]
      subst e
      subst hck
      exact hm (met_iff.2 ((part_keys a v zs).subset ha))

theorem zip_of (R : List (Vl × Vl)) : (keysOf R).zip (valsOf R) = R := by
  induction R with
  | nil => rfl
  | cons p R ih => simp only [keysOf, valsOf, List.map_cons, List.zip_cons_cons] at ih ⊢; rw [ih]

/-- All that a good table and good words say. -/
structure Fine (k v : Vl) (zs : List (Vl × Vl)) : Prop where
  keys : ∀ p ∈ zs, stB p.1 = true
  vals : ∀ p ∈ zs, stB p.2 = true
  nodup : (keysOf zs).Nodup
  k : stB k = true
  v : mayB v.k v.n v.s = true

theorem set_may {k v : Vl} {zs : List (Vl × Vl)} (h : Fine k v zs) (hl : ¬ 100 < (setZ k v zs).length) : mayT (keysOf (setZ k v zs)) (valsOf (setZ k v zs)) = true := by
  unfold mayT
  simp only [Bool.and_eq_true, decide_eq_true_eq, List.all_eq_true]
  have mem : ∀ p ∈ setZ k v zs, stB p.1 = true ∧ stB p.2 = true := by
    intro p hp
    have hv : v.k ≠ 0 → stB v = true := fun h0 => by simp [stB, h0, h.v]
    unfold setZ at hp
    rcases List.mem_append.1 hp with hp | hp
    · obtain ⟨h1, h2⟩ := part_mem hp
      obtain ⟨q, hq, e⟩ := List.mem_map.1 h1
      refine ⟨by rw [← e]; exact h.keys q hq, ?_⟩
      rcases h2 with ⟨e2, h0⟩ | h2
      · rw [e2] at h0 ⊢; exact hv h0
      · exact h.vals p h2
    · split at hp
      · simp at hp
      · obtain ⟨h1, h2⟩ := List.mem_filter.1 hp
        simp at h1
        subst h1
        exact ⟨h.k, hv (by simpa [full] using h2)⟩
  refine ⟨⟨⟨by simp [keysOf, valsOf], by simp [keysOf]; omega⟩, fun x hx => ?_, fun y hy => ?_⟩, setZ_keys_nodup h.nodup⟩
  · obtain ⟨p, hp, rfl⟩ := List.mem_map.1 hx
    exact (mem p hp).1
  · obtain ⟨p, hp, rfl⟩ := List.mem_map.1 hy
    exact (mem p hp).2

theorem look_mem {R : List (Vl × Vl)} {k y : Vl} (hn : (keysOf R).Nodup) (h : (k, y) ∈ R) : look R k = y := by
  obtain ⟨j, hj, e⟩ := List.mem_iff_getElem.1 h
  refine look_at (ini := R.take j) (by have := prefix_snoc (zs := R) (k := j) (x := (k, y)) (by rw [List.getElem?_eq_getElem hj, e]); exact this) (fun p hp e' => ?_)
  obtain ⟨i, hi, e2⟩ := List.mem_take_iff_getElem.1 hp
  rw [List.nodup_iff_pairwise_ne, keysOf, List.pairwise_map] at hn
  have := List.pairwise_iff_getElem.1 hn i j (by omega) hj (by omega)
  rw [e2, e] at this
  exact this e'

theorem look_notin {R : List (Vl × Vl)} {k : Vl} (h : ¬ k ∈ keysOf R) : look R k = nilV := look_none (fun p hp e => h (e ▸ List.mem_map.2 ⟨p, hp, rfl⟩))

theorem set_get {k v : Vl} {zs : List (Vl × Vl)} (h : Fine k v zs) : look (setZ k v zs) k = v := by
  by_cases h0 : v.k = 0
  · have hv := nil_of_may h.v h0
    rw [look_notin, hv]
    intro hin
    obtain ⟨p, hp, e⟩ := List.mem_map.1 hin
    unfold setZ at hp
    rcases List.mem_append.1 hp with hp | hp
    · simp only [part, List.mem_filter, List.mem_map] at hp
      obtain ⟨⟨q, hq, rfl⟩, hf⟩ := hp
      rw [swap_key] at e
      rw [swap_eq e] at hf
      simp [full, h0] at hf
    · split at hp
      · simp at hp
      · obtain ⟨h1, h2⟩ := List.mem_filter.1 hp
        simp at h1
        subst h1
        simp [full, h0] at h2
  · have hf : full (k, v) = true := by simp [full, h0]
    refine look_mem (setZ_keys_nodup h.nodup) ?_
    unfold setZ
    by_cases hm : met k zs = true
    · rw [if_pos hm, List.append_nil]
      obtain ⟨p, hp, e⟩ := List.mem_map.1 (met_iff.1 hm)
      simp only [part, List.mem_filter, List.mem_map]
      exact ⟨⟨p, hp, swap_eq e⟩, hf⟩
    · rw [if_neg hm]
      refine List.mem_append.2 (.inr ?_)
      simp [hf]

theorem set_other {k v o : Vl} {zs : List (Vl × Vl)} (h : Fine k v zs) (hne : o ≠ k) : look (setZ k v zs) o = look zs o := by
  by_cases hin : o ∈ keysOf zs
  · obtain ⟨⟨o', y⟩, hp, e⟩ := List.mem_map.1 hin
    simp only at e
    subst e
    rw [look_mem h.nodup hp]
    refine look_mem (setZ_keys_nodup h.nodup) ?_
    unfold setZ
    refine List.mem_append.2 (.inl ?_)
    simp only [part, List.mem_filter, List.mem_map]
    refine ⟨⟨_, hp, swap_ne hne⟩, ?_⟩
    have := h.vals _ hp
    simp [stB] at this
    simp [full, this.1]
  · rw [look_notin hin, look_notin]
    intro hin'
    obtain ⟨p, hp, e⟩ := List.mem_map.1 hin'
    unfold setZ at hp
    rcases List.mem_append.1 hp with hp | hp
    · exact hin (e ▸ (part_mem hp).1)
    · split at hp
      · simp at hp
      · have := (List.mem_filter.1 hp).1
        simp at this
        subst this
        exact hne e.symm

/-- Where the i-th key stands in the new table. -/
def pos (k v : Vl) (zs : List (Vl × Vl)) (i : Nat) : Nat := (part k v (zs.take i)).length

theorem pos_mono (k v : Vl) (zs : List (Vl × Vl)) (i : Nat) : pos k v zs i ≤ pos k v zs (i + 1) := by
  unfold pos
  rw [List.take_add_one, part_append]
  simp

theorem pos_at {k v : Vl} {zs : List (Vl × Vl)} (h : Fine k v zs) {i : Nat} {x : Vl} (hx : (keysOf zs)[i]? = some x) (hne : x ≠ k) : (keysOf (setZ k v zs))[pos k v zs i]? = some x := by
  simp only [keysOf, List.getElem?_map, Option.map_eq_some_iff] at hx
  obtain ⟨⟨x', y⟩, hp, e⟩ := hx
  simp only at e
  subst e
  have hs : zs = zs.take i ++ (x', y) :: zs.drop (i + 1) := by
    obtain ⟨hm, e⟩ := List.getElem?_eq_some_iff.1 hp
    rw [← e, List.getElem_cons_drop, List.take_append_drop]
  have hy := h.vals _ (List.mem_of_getElem? hp)
  simp [stB] at hy
  have hc : part k v ((x', y) :: zs.drop (i + 1)) = (x', y) :: part k v (zs.drop (i + 1)) := by
    show (((x', y) :: zs.drop (i + 1)).map (swap k v)).filter full = _
    rw [List.map_cons, swap_ne (p := (x', y)) hne, List.filter_cons_of_pos (by simp [full, hy.1])]
    rfl
  have : setZ k v zs = part k v (zs.take i) ++ ((x', y) :: (part k v (zs.drop (i + 1)) ++ (if met k zs = true then [] else [(k, v)].filter full))) := by
    unfold setZ
    conv => lhs; arg 1; rw [hs, part_append, hc]
    simp
  rw [this, keysOf, List.map_append, List.getElem?_append_right (by simp [pos])]
  simp [pos]

theorem pos_before {k v : Vl} {zs : List (Vl × Vl)} (h : Fine k v zs) {i a : Nat} {x : Vl} (hx : (keysOf zs)[i]? = some x) (hne : x ≠ k) (ha : a < pos k v zs i) : (keysOf (setZ k v zs))[a]? ≠ some x := fun e => by
  have hn := setZ_keys_nodup (k := k) (v := v) h.nodup
  rw [List.nodup_iff_pairwise_ne] at hn
  exact pair_ne hn e (pos_at h hx hne) ha rfl

end Go.Proofs.Ytkcieeckndimpaa
