/- Of programs that may be, in plain words: what each name is, or the first fault. The locals that are there, in one row, as the document has them. What going over a node leaves as it was. Going over a node adds locals to the innermost block alone, behind those that are there. -/
import Derived.Test.YtnnppenlfocgiaaGreatDoorK06
namespace Go.Proofs.YtnnppenlfocgiaaGreatDoor
open Go

/-- A local: its name; whether it counts a loop's rounds. -/
structure Lc where
  nm : List UInt8
  fx : Bool
/-- How far a program was gone over: the slots of the nodes up to there; the locals of the blocks that go on, the innermost block first, in each block the first one made first. -/
structure Cs where
  sl : List Int
  bl : List (List Lc)
abbrev CR : Type := Except (Int × Nat) Cs

def sumL (bl : List (List Lc)) : Nat := (bl.map List.length).sum
def Cs.live (c : Cs) : Nat := sumL c.bl
def Cs.enter (c : Cs) : Cs := { c with sl := c.sl ++ [-1] }
def Cs.begin (c : Cs) : Cs := { c with bl := [] :: c.bl }
def Cs.close (c : Cs) : Cs := { c with bl := c.bl.tail }
def Cs.put (c : Cs) (a : Nat) (v : Int) : Cs := { c with sl := c.sl.set a v }

/-- The innermost local of a name: its slot, whether it counts rounds. -/
def findL (s : List UInt8) : List (List Lc) → Option (Nat × Bool)
  | [] => none
  | b :: r => match b.findIdx? (fun x => x.nm == s) with
    | some i => some (sumL r + i, (b[i]?.map Lc.fx).getD false)
    | none => findL s r
/-- The first function of a name. -/
def funI (fs : List (List UInt8)) (s : List UInt8) : Option Nat := fs.findIdx? (fun x => x == s)

/-- A local more in the innermost block. -/
def declareC (s : List UInt8) (fx : Bool) (a : Nat) (c : Cs) : CR :=
  match c.bl with
  | [] => .ok c
  | b :: r => if b.any (fun x => x.nm == s) then .error (5, a) else if 30 ≤ c.live then .error (1, a) else .ok ⟨c.sl.set a c.live, (b ++ [⟨s, fx⟩]) :: r⟩
def nameC (fs : List (List UInt8)) (s : List UInt8) (a : Nat) (c : Cs) : CR :=
  match findL s c.bl with
  | some p => .ok (c.put a p.1)
  | none => match funI fs s with
    | some j => .ok (c.put a (30 + j))
    | none => .error (4, a)
/-- May a place be set? -/
def setB (p : Option Nd) (c : Cs) : Bool :=
  match p with
  | none => true
  | some x => if x.k = 18 then (match findL x.t c.bl with | some q => !q.2 | none => false) else true
/-- What is asked of a node behind its kids. -/
def actC (fs : List (List UInt8)) (k : Int) (t : List UInt8) (ks : List Nd) (a : Nat) (c : Cs) : CR :=
  if k = 3 ∨ k = 5 then declareC t false a c
  else if k = 18 then nameC fs t a c
  else if k = 6 then (if setB ks.head? c then .ok c else .error (3, a))
  else if k = 21 then (if 6 < ks.length then .error (1, a) else .ok c)
  else .ok c
/-- A node within a function; 'true': a block whose locals have a place already. -/
def visC (fs : List (List UInt8)) : Bool → Nd → Cs → CR
  | f, ⟨k, t, _, ks⟩, c =>
    if k = 4 then (if f then go k t 0 0 ks c.enter else (go k t 0 0 ks c.begin.enter).map Cs.close)
    else (go k t c.sl.length 0 ks c.enter).bind fun c' => if k = 10 then .ok c' else actC fs k t ks c.sl.length c'
where go (k : Int) (t : List UInt8) (a : Nat) : Nat → List Nd → Cs → CR
  | _, [], c => .ok c
  | i, x :: l, c => (if k = 10 ∧ i = 2 then (declareC t true a c.begin).bind fun c' => (visC fs true x c').map Cs.close else visC fs false x c).bind (go k t a (i + 1) l)
/-- A function's parameters and its block. -/
def bodyC (fs : List (List UInt8)) : List Nd → Cs → CR
  | [], c => .ok c
  | [z], c => visC fs true z c
  | x :: y :: l, c => (visC fs false x c).bind (bodyC fs (y :: l))
/-- Is there one of that name ahead? -/
def twiceB (fs : List (List UInt8)) (i : Nat) (s : List UInt8) : Bool := match funI fs s with | some j => decide (j < i) | none => false
def funC (fs : List (List UInt8)) (i : Nat) (n : Nd) (c : Cs) : CR :=
  if twiceB fs i n.t then .error (5, c.sl.length)
  else if 12 ≤ i ∨ 6 < n.kids.length then .error (1, c.sl.length)
  else (bodyC fs n.kids c.enter.begin).map Cs.close
def funsC (fs : List (List UInt8)) : Nat → List Nd → Cs → CR
  | _, [], c => .ok c
  | i, x :: l, c => (funC fs i x c).bind (funsC fs (i + 1) l)
/-- "main". -/
abbrev W.main_ : List UInt8 := [109, 97, 105, 110]
/-- Has it parameters? -/
def paramB (x : Option Nd) : Bool := match x with | some x => decide (1 < x.kids.length) | none => false
/-- A program: its slots, or the first fault. -/
def unitC (n : Nd) : Except (Int × Nat) (List Int) :=
  let fs := n.kids.map Nd.t
  match funsC fs 0 n.kids ⟨[-1], []⟩ with
  | .error e => .error e
  | .ok c => match funI fs W.main_ with
    | none => .error (4, 0)
    | some j => if paramB n.kids[j]? then .error (6, 0) else .ok c.sl

theorem sumL_cons (b : List Lc) (r : List (List Lc)) : sumL (b :: r) = b.length + sumL r := by simp [sumL]
/-- What is gone over only grows: slots are added, blocks are as many as before. -/
theorem declareC_ok {s : List UInt8} {fx : Bool} {a : Nat} {c c' : Cs} (h : declareC s fx a c = .ok c') : c'.sl.length = c.sl.length ∧ c'.bl.length = c.bl.length ∧ c'.bl.tail = c.bl.tail := by
  unfold declareC at h
  split at h
  · cases h; simp
  · rename_i b r e
    split at h
    · cases h
    · split at h
      · cases h
      · cases h; simp [e]
theorem nameC_ok {fs : List (List UInt8)} {s : List UInt8} {a : Nat} {c c' : Cs} (h : nameC fs s a c = .ok c') : c'.sl.length = c.sl.length ∧ c'.bl = c.bl := by
  unfold nameC at h
  split at h
  · cases h; simp [Cs.put]
  · split at h
    · cases h; simp [Cs.put]
    · cases h
theorem actC_ok {fs : List (List UInt8)} {k : Int} {t : List UInt8} {ks : List Nd} {a : Nat} {c c' : Cs} (h : actC fs k t ks a c = .ok c') : c'.sl.length = c.sl.length ∧ c'.bl.length = c.bl.length ∧ c'.bl.tail = c.bl.tail := by
  unfold actC at h
  split at h
  · exact declareC_ok h
  split at h
  · have := nameC_ok h; simp [this]
  split at h
  · split at h
    · cases h; simp
    · cases h
  split at h
  · split at h
    · cases h
    · cases h; simp
  · cases h; simp
end Go.Proofs.YtnnppenlfocgiaaGreatDoor
namespace Go.Proofs.YtnnppenlfocgiaaGreatDoor
open Go

/-- A local as the document has it: its name, how deep its block is, whether it is a loop's. -/
structure Ld where
  nm : List UInt8
  dp : Nat
  lp : Bool
/-- All locals, the outermost block's first. -/
def flatD : List (List Lc) → List Ld
  | [] => []
  | b :: r => flatD r ++ b.map fun x => ⟨x.nm, r.length + 1, x.fx⟩
theorem flatD_len : ∀ bl, (flatD bl).length = sumL bl
  | [] => rfl
  | b :: r => by rw [flatD, sumL_cons, List.length_append, List.length_map, flatD_len r]; omega
theorem flatD_deep : ∀ (bl : List (List Lc)) (x : Ld), x ∈ flatD bl → 1 ≤ x.dp ∧ x.dp ≤ bl.length
  | [], x, h => by simp [flatD] at h
  | b :: r, x, h => by
    rw [flatD, List.mem_append] at h
    rcases h with h | h
    · have := flatD_deep r x h; simp; omega
    · obtain ⟨y, _, rfl⟩ := List.mem_map.1 h; simp
/-- Is there one of that name in the innermost block? -/
theorem flatD_twice (b : List Lc) (r : List (List Lc)) (s : List UInt8) : (∃ x ∈ flatD (b :: r), x.dp = r.length + 1 ∧ x.nm = s) ↔ b.any (fun x => x.nm == s) = true := by
  rw [flatD]
  constructor
  · rintro ⟨x, hx, hd, hn⟩
    rw [List.mem_append] at hx
    rcases hx with hx | hx
    · have := flatD_deep r x hx; omega
    · obtain ⟨y, hy, rfl⟩ := List.mem_map.1 hx
      rw [List.any_eq_true]
      exact ⟨y, hy, by simpa using hn⟩
  · intro h
    rw [List.any_eq_true] at h
    obtain ⟨y, hy, hn⟩ := h
    exact ⟨⟨y.nm, r.length + 1, y.fx⟩, List.mem_append_right _ (List.mem_map.2 ⟨y, hy, rfl⟩), rfl, by simpa using hn⟩
/-- No block has two of one name. -/
def NB (bl : List (List Lc)) : Prop := ∀ b ∈ bl, (b.map Lc.nm).Nodup
theorem findIdx_some {b : List Lc} {s : List UInt8} {i : Nat} (h : b.findIdx? (fun x => x.nm == s) = some i) : ∃ x, b[i]? = some x ∧ x.nm = s := by
  rw [List.findIdx?_eq_some_iff_getElem] at h
  obtain ⟨hi, hx, _⟩ := h
  exact ⟨b[i], List.getElem?_eq_getElem hi, by simpa using hx⟩
theorem findIdx_none {b : List Lc} {s : List UInt8} (h : b.findIdx? (fun x => x.nm == s) = none) : ∀ x ∈ b, x.nm ≠ s := by
  rw [List.findIdx?_eq_none_iff] at h
  intro x hx
  simpa using h x hx
/-- The innermost local of a name is the last one of that name in the row. -/
theorem findL_none : ∀ {bl : List (List Lc)} {s : List UInt8}, findL s bl = none → ∀ x ∈ flatD bl, x.nm ≠ s
  | [], s, _, x, hx => by simp [flatD] at hx
  | b :: r, s, h, x, hx => by
    rw [findL] at h
    cases hf : b.findIdx? (fun x => x.nm == s) with
    | some i => rw [hf] at h; cases h
    | none =>
      rw [hf] at h
      rw [flatD, List.mem_append] at hx
      rcases hx with hx | hx
      · exact findL_none h x hx
      · obtain ⟨y, hy, rfl⟩ := List.mem_map.1 hx
        exact findIdx_none hf y hy
theorem findL_some : ∀ {bl : List (List Lc)} {s : List UInt8} {i : Nat} {fx : Bool}, NB bl → findL s bl = some (i, fx) → (∃ d, (flatD bl)[i]? = some ⟨s, d, fx⟩) ∧ ∀ j x, i < j → (flatD bl)[j]? = some x → x.nm ≠ s
  | [], s, i, fx, _, h => by cases h
  | b :: r, s, i, fx, hN, h => by
    have hN' : NB r := fun c hc => hN c (by simp [hc])
    have hl := flatD_len r
    rw [findL] at h
    cases hf : b.findIdx? (fun x => x.nm == s) with
    | some k =>
      rw [hf] at h
      obtain ⟨x, hx, hn⟩ := findIdx_some hf
      simp only [hx, Option.map_some, Option.getD_some, Option.some.injEq, Prod.mk.injEq] at h
      obtain ⟨rfl, rfl⟩ := h
      refine ⟨⟨r.length + 1, ?_⟩, fun j z hj hz => ?_⟩
      · rw [flatD, List.getElem?_append_right (by omega), hl, Nat.add_sub_cancel_left]
        simp [hx, hn]
      · rw [flatD, List.getElem?_append_right (by omega), hl, List.getElem?_map] at hz
        obtain ⟨y, hy, rfl⟩ := Option.map_eq_some_iff.1 hz
        intro e
        have hnd := hN b (by simp)
        rw [List.nodup_iff_pairwise_ne, List.pairwise_iff_getElem] at hnd
        have h1 := (List.getElem?_eq_some_iff.1 hx)
        have h2 := (List.getElem?_eq_some_iff.1 hy)
        obtain ⟨a1, a2⟩ := h1
        obtain ⟨b1, b2⟩ := h2
        have := hnd k (j - sumL r) (by simpa using a1) (by simpa using b1) (by omega)
        simp only [List.getElem_map, a2, b2] at this
        exact this (hn.trans e.symm)
    | none =>
      rw [hf] at h
      obtain ⟨⟨d, h1⟩, h2⟩ := findL_some hN' h
      have hi : i < (flatD r).length := (List.getElem?_eq_some_iff.1 h1).1
      refine ⟨⟨d, by rw [flatD, List.getElem?_append_left hi]; exact h1⟩, fun j z hj hz => ?_⟩
      rw [flatD] at hz
      by_cases hjr : j < (flatD r).length
      · rw [List.getElem?_append_left hjr] at hz
        exact h2 j z hj hz
      · rw [List.getElem?_append_right (by omega), List.getElem?_map] at hz
        obtain ⟨y, hy, rfl⟩ := Option.map_eq_some_iff.1 hz
        exact findIdx_none hf y (List.mem_of_getElem? hy)
theorem NB.declare {s : List UInt8} {fx : Bool} {a : Nat} {c c' : Cs} (hN : NB c.bl) (h : declareC s fx a c = .ok c') : NB c'.bl := by
  unfold declareC at h
  split at h
  · cases h; exact hN
  · rename_i b r e
    split at h
    · cases h
    · rename_i hany
      split at h
      · cases h
      · cases h
        intro d hd
        simp only [List.mem_cons] at hd
        rcases hd with rfl | hd
        · rw [List.map_append]
          have hb := hN b (by rw [e]; simp)
          rw [List.nodup_append]
          refine ⟨hb, by simp, fun x hx y hy => ?_⟩
          simp at hy
          subst hy
          intro e2
          obtain ⟨z, hz, rfl⟩ := List.mem_map.1 hx
          exact hany (List.any_eq_true.2 ⟨z, hz, by simpa using e2⟩)
        · exact hN d (by rw [e]; simp [hd])
theorem NB.begin {c : Cs} (hN : NB c.bl) : NB c.begin.bl := fun b hb => by
  simp only [Cs.begin, List.mem_cons] at hb
  rcases hb with rfl | hb
  · simp
  · exact hN b hb
theorem NB.close {c : Cs} (hN : NB c.bl) : NB c.close.bl := fun b hb => hN b (List.mem_of_mem_tail hb)
end Go.Proofs.YtnnppenlfocgiaaGreatDoor
namespace Go.Proofs.YtnnppenlfocgiaaGreatDoor
open Go

/-- Blocks are as many as before, the outer ones are as they were; slots are added alone. -/
structure Kp (c c' : Cs) : Prop where
  len : c'.bl.length = c.bl.length
  tail : c'.bl.tail = c.bl.tail
  sl : c.sl.length ≤ c'.sl.length
  nb : NB c.bl → NB c'.bl
theorem Kp.refl (c : Cs) : Kp c c := ⟨rfl, rfl, Nat.le_refl _, id⟩
theorem Kp.trans {a b c : Cs} (h : Kp a b) (k : Kp b c) : Kp a c := ⟨k.len.trans h.len, k.tail.trans h.tail, Nat.le_trans h.sl k.sl, fun x => k.nb (h.nb x)⟩
theorem Kp.enter (c : Cs) : Kp c c.enter := ⟨rfl, rfl, by simp [Cs.enter], id⟩
/-- A block is begun, gone over, and taken away. -/
theorem Kp.block {c d : Cs} (h : Kp c.begin d) : Kp c d.close ∧ d.close.bl = c.bl := by
  have e : d.close.bl = c.bl := by
    have := h.tail
    simpa [Cs.begin, Cs.close] using this
  exact ⟨⟨by rw [e], by rw [e], by have := h.sl; simpa [Cs.begin, Cs.close] using this, fun hn => by rw [e]; exact hn⟩, e⟩
theorem Kp.declare {s : List UInt8} {fx : Bool} {a : Nat} {c c' : Cs} (h : declareC s fx a c = .ok c') : Kp c c' := by
  obtain ⟨h1, h2, h3⟩ := declareC_ok h
  exact ⟨h2, h3, by omega, fun hn => NB.declare hn h⟩
theorem Kp.name {fs : List (List UInt8)} {s : List UInt8} {a : Nat} {c c' : Cs} (h : nameC fs s a c = .ok c') : Kp c c' := by
  obtain ⟨h1, h2⟩ := nameC_ok h
  exact ⟨by rw [h2], by rw [h2], by omega, fun hn => by rw [h2]; exact hn⟩
theorem Kp.act {fs : List (List UInt8)} {k : Int} {t : List UInt8} {ks : List Nd} {a : Nat} {c c' : Cs} (h : actC fs k t ks a c = .ok c') : Kp c c' := by
  unfold actC at h
  split at h
  · exact Kp.declare h
  split at h
  · exact Kp.name h
  split at h
  · split at h
    · cases h; exact Kp.refl _
    · cases h
  split at h
  · split at h
    · cases h
    · cases h; exact Kp.refl _
  · cases h; exact Kp.refl _
theorem bind_ok {x : CR} {f : Cs → CR} {c : Cs} (h : x.bind f = .ok c) : ∃ d, x = .ok d ∧ f d = .ok c := by
  cases x with
  | error e => cases h
  | ok d => exact ⟨d, rfl, h⟩
theorem map_ok {x : CR} {f : Cs → Cs} {c : Cs} (h : x.map f = .ok c) : ∃ d, x = .ok d ∧ f d = c := by
  cases x with
  | error e => cases h
  | ok d => exact ⟨d, rfl, by simpa [Except.map] using h⟩

theorem vis_keep (fs : List (List UInt8)) (n : Nd) : ∀ (f : Bool) (c c' : Cs), visC fs f n c = .ok c' → Kp c c' := by
  refine nd_ind (m := fun n => ∀ (f : Bool) (c c' : Cs), visC fs f n c = .ok c' → Kp c c') (fun k t o ks ih f c c' h => ?_) n
  have hgo : ∀ (k : Int) (t : List UInt8) (a : Nat) (l : List Nd), (∀ y ∈ l, y ∈ ks) → ∀ (i : Nat) (c c' : Cs), visC.go fs k t a i l c = .ok c' → Kp c c' := by
    intro k t a l
    induction l with
    | nil => intro _ i c c' h; rw [visC.go] at h; cases h; exact Kp.refl _
    | cons x l ihl =>
      intro hm i c c' h
      rw [visC.go] at h
      obtain ⟨d, h1, h2⟩ := bind_ok h
      have hx := ih x (hm x (by simp))
      have h3 := ihl (fun y hy => hm y (by simp [hy])) _ d c' h2
      split at h1
      · obtain ⟨e, h4, h5⟩ := bind_ok h1
        obtain ⟨g, h6, rfl⟩ := map_ok h5
        exact (((Kp.declare h4).trans (hx _ _ _ h6)).block.1).trans h3
      · exact (hx _ _ _ h1).trans h3
  rw [visC] at h
  split at h
  · split at h
    · exact (Kp.enter c).trans (hgo _ _ _ ks (fun _ h => h) _ _ _ h)
    · obtain ⟨d, h1, rfl⟩ := map_ok h
      exact (((Kp.enter c.begin).trans (hgo _ _ _ ks (fun _ h => h) _ _ _ h1)).block).1
  · obtain ⟨d, h1, h2⟩ := bind_ok h
    have h3 := (Kp.enter c).trans (hgo _ _ _ ks (fun _ h => h) _ _ _ h1)
    split at h2
    · cases h2; exact h3
    · exact h3.trans (Kp.act h2)
theorem body_keep (fs : List (List UInt8)) : ∀ (l : List Nd) (c c' : Cs), bodyC fs l c = .ok c' → Kp c c'
  | [], c, c', h => by rw [bodyC] at h; cases h; exact Kp.refl _
  | [z], c, c', h => by rw [bodyC] at h; exact vis_keep fs z _ _ _ h
  | x :: y :: l, c, c', h => by
    rw [bodyC] at h
    obtain ⟨d, h1, h2⟩ := bind_ok h
    exact (vis_keep fs x _ _ _ h1).trans (body_keep fs (y :: l) d c' h2)
theorem fun_keep (fs : List (List UInt8)) (i : Nat) (n : Nd) (c c' : Cs) (h : funC fs i n c = .ok c') : Kp c c' := by
  unfold funC at h
  split at h
  · cases h
  split at h
  · cases h
  · obtain ⟨d, h1, rfl⟩ := map_ok h
    exact (Kp.enter c).trans ((body_keep fs _ _ _ h1).block.1)
end Go.Proofs.YtnnppenlfocgiaaGreatDoor
namespace Go.Proofs.YtnnppenlfocgiaaGreatDoor
open Go

def Pre (c c' : Cs) : Prop := ∀ b r, c.bl = b :: r → ∃ m, c'.bl = (b ++ m) :: r
theorem Pre.refl (c : Cs) : Pre c c := fun b r h => ⟨[], by simpa using h⟩
theorem Pre.trans {a b c : Cs} (h : Pre a b) (k : Pre b c) : Pre a c := fun x r e => by
  obtain ⟨m, h1⟩ := h x r e
  obtain ⟨m', h2⟩ := k _ _ h1
  exact ⟨m ++ m', by rw [h2, List.append_assoc]⟩
theorem Pre.same {c c' : Cs} (h : c'.bl = c.bl) : Pre c c' := fun b r e => ⟨[], by rw [h, e]; simp⟩
theorem Pre.block {c d : Cs} (h : Pre c.begin d) : d.close.bl = c.bl := by
  obtain ⟨m, e⟩ := h [] c.bl rfl
  simp [Cs.close, e]
theorem Pre.declare {s : List UInt8} {fx : Bool} {a : Nat} {c c' : Cs} (h : declareC s fx a c = .ok c') : Pre c c' := by
  intro b r e
  unfold declareC at h
  rw [e] at h
  simp only at h
  split at h
  · cases h
  · split at h
    · cases h
    · cases h; exact ⟨_, rfl⟩
theorem Pre.act {fs : List (List UInt8)} {k : Int} {t : List UInt8} {ks : List Nd} {a : Nat} {c c' : Cs} (h : actC fs k t ks a c = .ok c') : Pre c c' := by
  unfold actC at h
  split at h
  · exact Pre.declare h
  split at h
  · exact Pre.same (nameC_ok h).2
  split at h
  · split at h
    · cases h; exact Pre.refl _
    · cases h
  split at h
  · split at h
    · cases h
    · cases h; exact Pre.refl _
  · cases h; exact Pre.refl _
theorem vis_pre (fs : List (List UInt8)) (n : Nd) : ∀ (f : Bool) (c c' : Cs), visC fs f n c = .ok c' → Pre c c' := by
  refine nd_ind (m := fun n => ∀ (f : Bool) (c c' : Cs), visC fs f n c = .ok c' → Pre c c') (fun k t o ks ih f c c' h => ?_) n
  have hgo : ∀ (k : Int) (t : List UInt8) (a : Nat) (l : List Nd), (∀ y ∈ l, y ∈ ks) → ∀ (i : Nat) (c c' : Cs), visC.go fs k t a i l c = .ok c' → Pre c c' := by
    intro k t a l
    induction l with
    | nil => intro _ i c c' h; rw [visC.go] at h; cases h; exact Pre.refl _
    | cons x l ihl =>
      intro hm i c c' h
      rw [visC.go] at h
      obtain ⟨d, h1, h2⟩ := bind_ok h
      have hx := ih x (hm x (by simp))
      have h3 := ihl (fun y hy => hm y (by simp [hy])) _ d c' h2
      split at h1
      · obtain ⟨e, h4, h5⟩ := bind_ok h1
        obtain ⟨g, h6, rfl⟩ := map_ok h5
        exact (Pre.same ((Pre.declare h4).trans (hx _ _ _ h6)).block).trans h3
      · exact (hx _ _ _ h1).trans h3
  have hen : ∀ c : Cs, Pre c c.enter := fun c => Pre.same rfl
  rw [visC] at h
  split at h
  · split at h
    · exact (hen c).trans (hgo _ _ _ ks (fun _ h => h) _ _ _ h)
    · obtain ⟨d, h1, rfl⟩ := map_ok h
      exact Pre.same ((hen c.begin).trans (hgo _ _ _ ks (fun _ h => h) _ _ _ h1)).block
  · obtain ⟨d, h1, h2⟩ := bind_ok h
    have h3 := (hen c).trans (hgo _ _ _ ks (fun _ h => h) _ _ _ h1)
    split at h2
    · cases h2; exact h3
    · exact h3.trans (Pre.act h2)
/-- The row of locals up to those that were there. -/
theorem flatD_take {b m : List Lc} {r : List (List Lc)} : (flatD ((b ++ m) :: r)).take (flatD (b :: r)).length = flatD (b :: r) := by
  rw [flatD, flatD, List.map_append, ← List.append_assoc]
  exact List.take_left' rfl
/-- A block within a block. -/
theorem vis_block (fs : List (List UInt8)) (t : List UInt8) (o : Int) (ks : List Nd) (c : Cs) : visC fs false ⟨4, t, o, ks⟩ c = (visC fs true ⟨4, t, o, ks⟩ c.begin).map Cs.close := by
  rw [visC, visC]
  rfl
/-- How many locals there are, whatever was gone over. -/
def Lv (c : Cs) : Prop := c.live ≤ 30
theorem Lv.declare {s : List UInt8} {fx : Bool} {a : Nat} {c c' : Cs} (h : declareC s fx a c = .ok c') (hc : Lv c) : Lv c' := by
  unfold declareC at h
  split at h
  · cases h; exact hc
  · rename_i b r e
    split at h
    · cases h
    · split at h
      · cases h
      · cases h
        unfold Lv Cs.live at *
        rw [e, sumL_cons] at *
        simp
        omega
end Go.Proofs.YtnnppenlfocgiaaGreatDoor
