/- A map's entries as they lie in memory: what is put in, what is found. Over any program. The program's reader in memory; its token, its word. -/
import Derived.MapKept
import Derived.Laws.IdiomRangeMap
import Derived.Below
import Derived.Test.YtbofdfdmikhanaaGreatDoorJ04
import Derived.Test.YtbofdfdmikhanaaGreatDoorJ05
import Derived.BigQuiet
import Derived.Shelf.RegionOpen
import Derived.Lib.Hide
import Derived.Deep.RegionHeld3
namespace Go.Proofs.YtbofdfdmikhanaaGreatDoor
open Go Go.RowKit


/-- A kind of keys. -/
structure KeyK {α : Type} (d : TypeDesc) (kf : α → Value) : Prop where
  inj : ∀ a b, kf a = kf b → a = b
  key : ∀ a, MapKept.IsKey d (kf a)

def ents {α : Type} (kf : α → Value) (kv : List (α × Value)) : Array MapEntry := (kv.mapIdx fun i p => { key := kf p.1, val := p.2, born := i : MapEntry }).toArray
/-- The map with these entries, put in one behind the other. -/
def mapObj {α : Type} (kf : α → Value) (kv : List (α × Value)) : Obj := .map (ents kf kv) kv.length

theorem ents_mem {α : Type} {kf : α → Value} {kv : List (α × Value)} {e : MapEntry} (h : e ∈ (ents kf kv).toList) : ∃ i p, kv[i]? = some p ∧ e = { key := kf p.1, val := p.2, born := i } := by
  unfold ents at h
  simp only [List.mem_mapIdx] at h
  obtain ⟨i, hi, rfl⟩ := h
  exact ⟨i, kv[i], List.getElem?_eq_getElem hi, rfl⟩
theorem ents_get {α : Type} {kf : α → Value} {kv : List (α × Value)} {i : Nat} {p : α × Value} (h : kv[i]? = some p) : ({ key := kf p.1, val := p.2, born := i } : MapEntry) ∈ (ents kf kv).toList := by
  unfold ents
  simp only [List.mem_mapIdx]
  obtain ⟨hi, rfl⟩ := List.getElem?_eq_some_iff.1 h
  exact ⟨i, hi, rfl⟩
theorem ents_push {α : Type} (kf : α → Value) (kv : List (α × Value)) (k : α) (v : Value) : (ents kf kv).push { key := kf k, val := v, born := kv.length } = ents kf (kv ++ [(k, v)]) := by
  unfold ents
  simp
theorem look_mem {α : Type} [BEq α] [LawfulBEq α] {kv : List (α × Value)} {k : α} {v : Value} (hd : (kv.map (·.1)).Nodup) (h : (k, v) ∈ kv) : kv.lookup k = some v := by
  induction kv with
  | nil => simp at h
  | cons p l ih =>
    obtain ⟨k', v'⟩ := p
    simp only [List.map_cons, List.nodup_cons] at hd
    rcases List.mem_cons.1 h with e | h'
    · cases e
      simp [List.lookup]
    · have hne : ¬ k = k' := fun e => hd.1 (by subst e; exact List.mem_map.2 ⟨(k, v), h', rfl⟩)
      rw [List.lookup_cons, beq_false_of_ne hne]
      exact ih hd.2 h'
theorem look_none {α : Type} [BEq α] [LawfulBEq α] {kv : List (α × Value)} {k : α} (h : ∀ p ∈ kv, p.1 ≠ k) : kv.lookup k = none := by
  induction kv with
  | nil => rfl
  | cons p l ih =>
    obtain ⟨k', v'⟩ := p
    have hne : ¬ k = k' := fun e => h (k', v') (by simp) e.symm
    rw [List.lookup_cons, beq_false_of_ne hne]
    exact ih fun q hq => h q (by simp [hq])

theorem find_is {α : Type} [BEq α] [LawfulBEq α] {d : TypeDesc} {kf : α → Value} (hk : KeyK d kf) (kv : List (α × Value)) (hd : (kv.map (·.1)).Nodup) (k : α) :
    ∃ r, Instr.findNow d (kf k) (ents kf kv).toList 0 = some r ∧ r.map (·.2) = kv.lookup k := by
  rcases MapKept.findNow_spec (hk.key k) (ents kf kv).toList 0 (fun x hx => by obtain ⟨i, p, _, rfl⟩ := ents_mem hx; exact hk.key _) with ⟨h1, h2⟩ | ⟨j, e, h1, h2, h3⟩
  · refine ⟨_, h1, ?_⟩
    rw [look_none]
    · rfl
    intro p hp e
    obtain ⟨i, hi⟩ := List.getElem?_of_mem hp
    exact h2 _ (ents_get (kf := kf) hi) (congrArg kf e)
  · refine ⟨_, h1, ?_⟩
    obtain ⟨i, p, hp, rfl⟩ := ents_mem (List.mem_of_getElem? h2)
    have : p.1 = k := hk.inj _ _ h3
    subst this
    rw [look_mem hd (List.mem_of_getElem? hp)]
    rfl

theorem run_look {α : Type} [BEq α] [LawfulBEq α] {P : Program} {w : World} {T K E : TypeId} {d : TypeDesc} {kf : α → Value} {kv : List (α × Value)} {B : Nat} (ht : P.underlying T = some (.map K E)) (hK : P.underlying K = some d) (hk : KeyK d kf) (hm : w.heap[B]? = some (mapObj kf kv)) (hd : (kv.map (·.1)).Nodup) {z : Value} (hz : (zeroValue E).run P w = .ok z w) (k : α) (ok : Bool) :
    (Instr.lookup T (.map (some B)) (kf k) ok).run P w = .ok (if ok then .tuple #[(kv.lookup k).getD z, .bool (kv.lookup k).isSome] else (kv.lookup k).getD z) w := by
  obtain ⟨r, hr, he⟩ := find_is hk kv hd k
  have hc : ∀ b, (Instr.checkKey b 10000 K (kf k)).run P w = .ok () w := fun b => MapKept.run_checkKey hK (hk.key k) b 9999
  unfold mapObj at hm
  rw [← he]
  cases r with
  | none => simp [Instr.lookup, run_underlying ht, MapKept.run_getObj_map hm, hc, MapKept.run_findKey hK hr, Result.andThen, hz]
  | some q =>
    obtain ⟨j, v⟩ := q
    simp [Instr.lookup, run_underlying ht, MapKept.run_getObj_map hm, hc, MapKept.run_findKey hK hr, Result.andThen]
theorem run_put {α : Type} [BEq α] [LawfulBEq α] {P : Program} {w : World} {T K E : TypeId} {d : TypeDesc} {kf : α → Value} {kv : List (α × Value)} {B : Nat} (ht : P.underlying T = some (.map K E)) (hK : P.underlying K = some d) (hk : KeyK d kf) (hm : w.heap[B]? = some (mapObj kf kv)) (hd : (kv.map (·.1)).Nodup) (k : α) (hn : kv.lookup k = none) (v : Value) :
    (Instr.mapUpdate T (.map (some B)) (kf k) v).run P w = .ok () { w with heap := w.heap.setIfInBounds B (mapObj kf (kv ++ [(k, v)])) } := by
  obtain ⟨r, hr, he⟩ := find_is hk kv hd k
  have hc : (Instr.checkKey false 10000 K (kf k)).run P w = .ok () w := MapKept.run_checkKey hK (hk.key k) false 9999
  rw [hn] at he
  cases r with
  | some q => simp at he
  | none =>
    unfold mapObj at hm ⊢
    rw [← ents_push]
    simp [Instr.mapUpdate, run_underlying ht, MapKept.run_getObj_map hm, hc, MapKept.run_findKey hK hr, Result.andThen, MapKept.run_setObj_map _ hm]
theorem key_str : KeyK .string (fun s : List UInt8 => Value.string ⟨s.toArray⟩) := ⟨fun a b h => by simpa using h, fun a => by simp [MapKept.IsKey]⟩
theorem key_i64 : KeyK (.int .i64) (fun n : Int => Value.int .i64 n) := ⟨fun a b h => by simpa using h, fun a => by simp [MapKept.IsKey]⟩

end Go.Proofs.YtbofdfdmikhanaaGreatDoor
namespace Go.Proofs.YtbofdfdmikhanaaGreatDoor
open Go.RowKit
open Go

abbrev pt (x : Tok) : PT := (x.k, x.t)
def rest (ts : List Tok) (i : Nat) : List PT := (ts.drop i).map pt
theorem rest_end {ts : List Tok} {i : Nat} (h : ts.length ≤ i) : rest ts i = [] := by unfold rest; rw [List.drop_eq_nil_of_le h]; rfl
theorem rest_cons {ts : List Tok} {i : Nat} {x : Tok} (h : ts[i]? = some x) : rest ts i = pt x :: rest ts (i + 1) := by
  obtain ⟨hi, rfl⟩ := List.getElem?_eq_some_iff.1 h
  unfold rest
  rw [List.drop_eq_getElem_cons hi]
  rfl
theorem rest_len (ts : List Tok) (i : Nat) : (rest ts i).length = ts.length - i := by unfold rest; simp
/-- A token's three cells. -/
abbrev trio (x : Tok) : List Value := [.int .i64 x.k, .string ⟨x.t.toArray⟩, .int .i64 (x.a : Nat)]
/-- Tokens in memory, in a block below. -/
def TokAt (W : World) (b : Option Addr) (ts : List Tok) (lim : Nat) : Prop := ts = [] ∨ ∃ g, b = some ⟨g, 0, none⟩ ∧ g < lim ∧ g < W.heap.size ∧ ∀ j x, ts[j]? = some x → ∀ i u, (trio x)[i]? = some u → W.cell? ⟨g, j * 3 + i, none⟩ = some u
theorem TokAt.keep {W W' : World} {b : Option Addr} {ts : List Tok} {lim : Nat} {S : Nat → Prop} (h : TokAt W b ts lim) (hk : Keeps S W W') (hs : ∀ g, g < lim → ¬ S g) : TokAt W' b ts lim := by
  rcases h with h | ⟨g, e, h1, h2, h3⟩
  · exact .inl h
  · exact .inr ⟨g, e, h1, Nat.lt_of_lt_of_le h2 hk.size, fun j x hx i u hu => hk.cell (h3 j x hx i u hu) (hs g h1)⟩

abbrev sk (s : List UInt8) : Value := .string ⟨s.toArray⟩
abbrev ik (n : Int) : Value := .int .i64 n
/-- The words of the language, in their maps. -/
def reservedKV : List (List UInt8 × Value) := reserved.map fun s => (s, .agg #[])
def operatorsKV : List (List UInt8 × Value) := opsL.map fun p => (p.1, .agg #[.int .i64 p.2.1, .int .i64 ((p.2.2 + 1 : Nat) : Int)])
def signsKV : List (List UInt8 × Value) := [(S.mi, ik 24), (W.not_, ik 23), (S.hs, ik 25)]
def atomsKV : List (List UInt8 × Value) := [(W.nil_, ik 15), (W.true_, ik 16), (W.false_, ik 17)]
def spellOK (kv : List (Int × Value)) : Prop := (kv.map (·.1)).Nodup ∧ ∀ o, kv.lookup o = (opOf o).map fun p => .agg #[.string ⟨p.1.toArray⟩, .int .i64 ((p.2 + 1 : Nat) : Int)]
structure Wd (W : World) (lim m1 m2 m3 m4 m5 : Nat) : Prop where
  l1 : m1 < lim
  l2 : m2 < lim
  l3 : m3 < lim
  l4 : m4 < lim
  l5 : m5 < lim
  h1 : W.heap[m1]? = some (mapObj sk reservedKV)
  h2 : W.heap[m2]? = some (mapObj sk operatorsKV)
  h3 : ∃ kv, spellOK kv ∧ W.heap[m3]? = some (mapObj ik kv)
  h4 : W.heap[m4]? = some (mapObj sk signsKV)
  h5 : W.heap[m5]? = some (mapObj sk atomsKV)
theorem Wd.keep {W W' : World} {lim m1 m2 m3 m4 m5 : Nat} {S : Nat → Prop} (h : Wd W lim m1 m2 m3 m4 m5) (hk : Keeps S W W') (hs : ∀ g, g < lim → ¬ S g) : Wd W' lim m1 m2 m3 m4 m5 := by
  have go : ∀ {m o}, m < lim → W.heap[m]? = some o → W'.heap[m]? = some o := fun hm hx => (hk.block _ (block_lt hx) (hs _ hm)).trans hx
  obtain ⟨kv, hkv, h3⟩ := h.h3
  exact ⟨h.l1, h.l2, h.l3, h.l4, h.l5, go h.l1 h.h1, go h.l2 h.h2, ⟨kv, hkv, go h.l3 h3⟩, go h.l4 h.h4, go h.l5 h.h5⟩

/-- The reader: where it is. -/
abbrev rbx (m1 m2 m3 m4 m5 : Nat) (b : Option Addr) (n cap : Nat) (i : Int) : Obj := .cells #[.map (some m1), .map (some m2), .map (some m3), .map (some m4), .map (some m5), .slice b n cap, .int .i64 i] 66
structure Rd (W : World) (B : Nat) (ts : List Tok) (i : Nat) : Prop where
  box : ∃ m1 m2 m3 m4 m5 b cap, W.heap[B]? = some (rbx m1 m2 m3 m4 m5 b ts.length cap (i : Nat)) ∧ TokAt W b ts B ∧ Wd W B m1 m2 m3 m4 m5 ∧ ts.length ≤ cap
  le : i ≤ ts.length
  short : ts.length ≤ 4000
theorem Rd.keep {W W' : World} {B : Nat} {ts : List Tok} {i : Nat} {S : Nat → Prop} (h : Rd W B ts i) (hk : Keeps S W W') (hs : ∀ g, g ≤ B → ¬ S g) : Rd W' B ts i := by
  obtain ⟨m1, m2, m3, m4, m5, b, cap, h1, h2, h3, h4⟩ := h.box
  exact ⟨⟨m1, m2, m3, m4, m5, b, cap, (hk.block _ (block_lt h1) (hs _ (Nat.le_refl _))).trans h1, h2.keep hk (fun g hg => hs g (by omega)), h3.keep hk (fun g hg => hs g (by omega)), h4⟩, h.le, h.short⟩
theorem Rd.below {W W' : World} {B : Nat} {ts : List Tok} {i : Nat} (h : Rd W B ts i) (hb : Below W.heap.size W W') : Rd W' B ts i := h.keep (Keeps.of_below (S := fun _ => False) hb) (fun _ _ => id)
theorem Rd.lt {W : World} {B : Nat} {ts : List Tok} {i : Nat} (h : Rd W B ts i) : B < W.heap.size := by
  obtain ⟨m1, m2, m3, m4, m5, b, cap, h1, _⟩ := h.box
  exact block_lt h1
theorem Rd.go {W : World} {B : Nat} {ts : List Tok} {i j : Nat} (h : Rd W B ts i) (hj : j ≤ ts.length) : Rd (W.setCell ⟨B, 6, none⟩ (.int .i64 (j : Nat))) B ts j := by
  obtain ⟨m1, m2, m3, m4, m5, b, cap, h1, h2, h3, h4⟩ := h.box
  have hk : Keeps (fun k => k = B) W (W.setCell ⟨B, 6, none⟩ (.int .i64 (j : Nat))) := (Keeps.refl _ W).set B 6 _ (fun _ => rfl)
  exact ⟨⟨m1, m2, m3, m4, m5, b, cap, set_block _ h1, h2.keep hk (fun g hg e => by omega), h3.keep hk (fun g hg e => by omega), h4⟩, hj, h.short⟩

/-- What the walk asks of the reader's cells. -/
structure RdC (W : World) (B : Nat) (m1 m2 m3 m4 m5 : Nat) (b : Option Addr) (n cap : Nat) (i : Int) : Prop where
  c0 : W.cell? ⟨B, 0, none⟩ = some (.map (some m1))
  c1 : W.cell? ⟨B, 1, none⟩ = some (.map (some m2))
  c2 : W.cell? ⟨B, 2, none⟩ = some (.map (some m3))
  c3 : W.cell? ⟨B, 3, none⟩ = some (.map (some m4))
  c4 : W.cell? ⟨B, 4, none⟩ = some (.map (some m5))
  c5 : W.cell? ⟨B, 5, none⟩ = some (.slice b n cap)
  c6 : W.cell? ⟨B, 6, none⟩ = some (.int .i64 i)
  f6 : W.frozen? ⟨B, 6, none⟩ = false
theorem rdC {W : World} {B m1 m2 m3 m4 m5 : Nat} {b : Option Addr} {n cap : Nat} {i : Int} (h : W.heap[B]? = some (rbx m1 m2 m3 m4 m5 b n cap i)) : RdC W B m1 m2 m3 m4 m5 b n cap i :=
  ⟨cell_block h rfl, cell_block h rfl, cell_block h rfl, cell_block h rfl, cell_block h rfl, cell_block h rfl, cell_block h rfl, frozen_block h⟩

theorem drewN_heap {W : World} {B n : Nat} {o : Obj} (h : W.heap[B]? = some o) : (W.drewN n).heap[B]? = some o := h
theorem drewN_below {m n : Nat} {w W : World} (h : Below m w W) : Below m w (W.drewN n) := ⟨h.os, h.tape, h.output, h.size, h.block⟩
/-- The token here. -/
def tokH (ts : List Tok) (i : Nat) : Value := match ts[i]? with
  | some x => tokv x.k ⟨x.t.toArray⟩ (x.a : Nat)
  | none => tokv 0 ⟨#[]⟩ 0
theorem res112 {tm : Array Value} {W : World} {B : Nat} {k : Int} {t : ByteArray} {a : Int} (h : tm[2]?.getD undef = .pointer (some ⟨B, 0, none⟩)) (hx : W.heap[B]? = some (tbx k t a)) : (results Tryz.f112 tm).run Tryz.prog W = .ok (tokv k t a) W := by
  obtain ⟨c0, c1, c2, _, _, _⟩ := in3 hx
  simp [results, Tryz.results112, go_sem, h, c0, c1, c2]

set_option maxRecDepth 20000 in
set_option maxHeartbeats 1000000 in
theorem token_end (B : Nat) (ts : List Tok) (w : World) (hR : Rd w B ts ts.length) : Calls Tryz.prog 112 #[.pointer (some ⟨B, 0, none⟩)] w fun e w' => e = .returned (tokv 0 ⟨#[]⟩ 0) ∧ Below w.heap.size w w' := by
  have hr := alloc_new w zeroTok
  have hb0 : Below w.heap.size w (w.alloc zeroTok) := (Below.refl _ _).alloc (Nat.le_refl _) _
  obtain ⟨m1, m2, m3, m4, m5, b, cap, h1, _⟩ := hR.box
  have hlt := block_lt h1
  obtain ⟨c0, c1, c2, c3, c4, c5, c6, f6⟩ := rdC h1
  clear h1 hR
  go_enter Tryz.func112, Tryz.ntmps112
  go_wp2
  go_quiet (fail)
  go_wp2
  exact bodyPost_ret (res112 rfl (put3_same 0 _ 0 (drewN_heap hr))) rfl ⟨rfl, put3_below _ _ _ (drewN_below hb0) (Nat.le_refl _)⟩
set_option maxRecDepth 20000 in
set_option maxHeartbeats 1000000 in
theorem token_some (B : Nat) (ts : List Tok) (i : Nat) (x : Tok) (hx : ts[i]? = some x) (w : World) (hR : Rd w B ts i) : Calls Tryz.prog 112 #[.pointer (some ⟨B, 0, none⟩)] w fun e w' => e = .returned (tokv x.k ⟨x.t.toArray⟩ (x.a : Nat)) ∧ Below w.heap.size w w' := by
  have hr := alloc_new w zeroTok
  have hb0 : Below w.heap.size w (w.alloc zeroTok) := (Below.refl _ _).alloc (Nat.le_refl _) _
  obtain ⟨m1, m2, m3, m4, m5, b, cap, h1, ht, _, hcap⟩ := hR.box
  have hlt := block_lt h1
  obtain ⟨hi, _⟩ := List.getElem?_eq_some_iff.1 hx
  have hs := hR.short
  obtain ⟨c0, c1, c2, c3, c4, c5, c6, f6⟩ := rdC h1
  rcases ht with rfl | ⟨g, rfl, hg, hgw, hcells⟩
  · simp at hx
  have d0 : w.cell? ⟨g, i * 3, none⟩ = some (.int .i64 x.k) := hcells i x hx 0 _ rfl
  have d1 := hcells i x hx 1 _ rfl
  have d2 := hcells i x hx 2 _ rfl
  have hii : ¬ (i : Int) = (ts.length : Int) := by omega
  have hi' : (i : Int) < (ts.length : Int) := by omega
  obtain ⟨n, hn⟩ : ∃ n, ts.length = n := ⟨_, rfl⟩
  rw [hn] at c5 hii hi' hi hs hcap
  clear h1 hR hcells hx hn
  have n1 : ¬ B = w.heap.size := by omega
  have n2 : ¬ g = w.heap.size := by omega
  have n3 : ¬ w.heap.size = B := by omega
  have n4 : ¬ w.heap.size = g := by omega
  go_enter Tryz.func112, Tryz.ntmps112
  go_wp2
  go_quiet (fail)
  go_wp2
  go_region_held3 (fun u => u.cell? ⟨B, 5, none⟩ = some (.slice (some ⟨g, 0, none⟩) n cap) ∧ u.cell? ⟨B, 6, none⟩ = some (.int .i64 (i : Nat)) ∧ u.cell? ⟨g, i * 3, none⟩ = some (.int .i64 x.k) ∧ u.cell? ⟨g, i * 3 + 1, none⟩ = some (.string ⟨x.t.toArray⟩) ∧ u.cell? ⟨g, i * 3 + 2, none⟩ = some (.int .i64 (x.a : Nat))) (go_keep) (fail)
  go_wp2
  exact bodyPost_ret (res112 rfl (put3_same x.k _ _ (drewN_heap hr))) rfl ⟨rfl, put3_below _ _ _ (drewN_below hb0) (Nat.le_refl _)⟩
theorem token_any (B : Nat) (ts : List Tok) (i : Nat) (w : World) (hR : Rd w B ts i) : Calls Tryz.prog 112 #[.pointer (some ⟨B, 0, none⟩)] w fun e w' => e = .returned (tokH ts i) ∧ Below w.heap.size w w' := by
  have hi := hR.le
  unfold tokH
  cases h : ts[i]? with
  | some x => exact token_some B ts i x h w hR
  | none =>
    have : i = ts.length := by
      have := List.getElem?_eq_none_iff.1 h
      omega
    subst this
    exact token_end B ts w hR

/-- What the token here says. -/
def wd (ts : List Tok) (i : Nat) : List UInt8 := match ts[i]? with
  | some x => if x.k = 3 then [] else x.t
  | none => []
theorem box44 {W : World} {B : Nat} {k : Int} {t : ByteArray} {a : Int} (h : W.heap[B]? = some (tbx k t a)) : W.cell? ⟨B, 0, none⟩ = some (.int .i64 k) ∧ W.cell? ⟨B, 1, none⟩ = some (.string t) := ⟨cell_block h rfl, cell_block h rfl⟩
set_option maxRecDepth 20000 in
set_option maxHeartbeats 1000000 in
theorem word_any (B : Nat) (ts : List Tok) (i : Nat) (w : World) (hR : Rd w B ts i) : Calls Tryz.prog 114 #[.pointer (some ⟨B, 0, none⟩)] w fun e w' => e = .returned (sk (wd ts i)) ∧ Below w.heap.size w w' := by
  have hT := token_any B ts i w hR
  unfold tokH at hT
  unfold wd
  cases h : ts[i]? with
  | some x =>
    rw [h] at hT
    simp only at hT ⊢
    clear h hR
    by_cases hk : x.k = 3
    · rw [if_pos hk]
      rw [hk] at hT
      go_enter Tryz.func114, Tryz.ntmps114
      go_wp2_with (go_at_call 112; refine hT.mono ?_; rintro e w1 ⟨rfl, hb⟩)
      go_ret
      exact ⟨rfl, ext_alloc hb _⟩
    · rw [if_neg hk]
      go_enter Tryz.func114, Tryz.ntmps114
      go_wp2_with (go_at_call 112; refine hT.mono ?_; rintro e w1 ⟨rfl, hb⟩)
      go_ret
      exact ⟨rfl, ext_alloc hb _⟩
  | none =>
    rw [h] at hT
    simp only at hT ⊢
    clear h hR
    go_enter Tryz.func114, Tryz.ntmps114
    go_wp2_with (go_at_call 112; refine hT.mono ?_; rintro e w1 ⟨rfl, hb⟩)
    go_ret
    exact ⟨rfl, ext_alloc hb _⟩

/-- The strings of a row. -/
def StrAt (W : World) (c : Nat) (zs : List ByteArray) : Prop := W.heap[c]? = some (.cells (zs.map Value.string).toArray 9)
theorem StrAt.cells {W : World} {c : Nat} {zs : List ByteArray} (h : StrAt W c zs) : ∀ j, j < zs.length → W.cell? ⟨c, 0 + j, none⟩ = some (.string (zs.getD j ByteArray.empty)) := fun j hj => by
  refine cell_block h ?_
  simp [hj]
set_option maxRecDepth 20000 in
set_option maxHeartbeats 1000000 in
theorem sees_any (B : Nat) (ts : List Tok) (i : Nat) (c : Nat) (zs : List ByteArray) (hz : zs.length ≤ 4) (cap : Nat) (w : World) (hR : Rd w B ts i) (hS : StrAt w c zs) : Calls Tryz.prog 95 #[.pointer (some ⟨B, 0, none⟩), .slice (some ⟨c, 0, none⟩) zs.length cap] w fun e w' => e = .returned (.bool (Lib.containsS zs ⟨(wd ts i).toArray⟩)) ∧ Below w.heap.size w w' := by
  have hT := word_any B ts i w hR
  have hC := fun (u : World) (hb : Below w.heap.size w u) => Tryz.slices_Contains_string c 0 zs.length cap zs ⟨(wd ts i).toArray⟩ u (Nat.le_refl _) (by omega) (StrAt.cells (block_below hb hS))
  rw [List.take_length] at hC
  obtain ⟨V, hV⟩ : ∃ V, Lib.containsS zs ⟨(wd ts i).toArray⟩ = V := ⟨_, rfl⟩
  rw [hV] at hC ⊢
  go_enter Tryz.func95, Tryz.ntmps95
  go_wp2_with (first | (go_at_call 114; refine hT.mono ?_; rintro e w1 ⟨rfl, hb⟩) | (go_at_call 113; refine (hC _ hb).mono ?_; rintro e w2 ⟨rfl, rfl⟩))
  go_ret
  exact ⟨rfl, hb⟩

theorem contains1 (a : List UInt8) (s : List UInt8) : Lib.containsS [⟨a.toArray⟩] ⟨s.toArray⟩ = decide (s = a) := by
  have := Lib.containsS_iff [⟨a.toArray⟩] ⟨s.toArray⟩
  by_cases h : s = a
  · subst h; simp at this; simp [this]
  · rw [decide_eq_false h]
    rw [← Bool.not_eq_true, this]
    simp [h]
theorem contains2 (a b : List UInt8) (s : List UInt8) : Lib.containsS [⟨a.toArray⟩, ⟨b.toArray⟩] ⟨s.toArray⟩ = decide (s = a ∨ s = b) := by
  have := Lib.containsS_iff [⟨a.toArray⟩, ⟨b.toArray⟩] ⟨s.toArray⟩
  by_cases h : s = a ∨ s = b
  · rw [decide_eq_true h, this]; simpa using h
  · rw [decide_eq_false h, ← Bool.not_eq_true, this]
    simpa using h

set_option maxRecDepth 20000 in
set_option maxHeartbeats 1000000 in
theorem takes_no (B : Nat) (ts : List Tok) (i : Nat) (s : List UInt8) (h : ¬ wd ts i = s) (w : World) (hR : Rd w B ts i) : Calls Tryz.prog 96 #[.pointer (some ⟨B, 0, none⟩), sk s] w fun e w' => e = .returned (.bool false) ∧ Below w.heap.size w w' := by
  have hb0 : Below w.heap.size w (w.alloc (.cells #[sk s] 9)) := (Below.refl _ _).alloc (Nat.le_refl _) _
  have hC := sees_any B ts i w.heap.size [⟨s.toArray⟩] (by simp) 1 _ (hR.below hb0) (alloc_new w _)
  rw [contains1, decide_eq_false h] at hC
  go_enter Tryz.func96, Tryz.ntmps96
  go_wp2_with (go_at_call 95; refine hC.mono ?_; rintro e w1 ⟨rfl, hb⟩)
  go_ret
  exact ⟨rfl, ext_trans hb0 hb⟩
set_option maxRecDepth 20000 in
set_option maxHeartbeats 1000000 in
theorem takes_yes (B : Nat) (ts : List Tok) (i : Nat) (s : List UInt8) (h : wd ts i = s) (hi : i < ts.length) (w : World) (hR : Rd w B ts i) : Calls Tryz.prog 96 #[.pointer (some ⟨B, 0, none⟩), sk s] w fun e w' => e = .returned (.bool true) ∧ Rd w' B ts (i + 1) ∧ Keeps (fun k => k = B) w w' := by
  have hb0 : Below w.heap.size w (w.alloc (.cells #[sk s] 9)) := (Below.refl _ _).alloc (Nat.le_refl _) _
  have hC := sees_any B ts i w.heap.size [⟨s.toArray⟩] (by simp) 1 _ (hR.below hb0) (alloc_new w _)
  rw [contains1, decide_eq_true h] at hC
  have hs := hR.short
  go_enter Tryz.func96, Tryz.ntmps96
  go_wp2_with (go_at_call 95; refine hC.mono ?_; rintro e w1 ⟨rfl, hb⟩; have hR1 := hR.below (ext_trans hb0 hb); obtain ⟨m1, m2, m3, m4, m5, b, cap, h1, _⟩ := hR1.box; obtain ⟨c0, c1, c2, c3, c4, c5, c6, f6⟩ := rdC h1)
  go_ret
  exact ⟨rfl, hR1.go (j := i + 1) hi, (Keeps.of_below (ext_trans hb0 hb)).set B 6 _ (fun _ => rfl)⟩
end Go.Proofs.YtbofdfdmikhanaaGreatDoor
