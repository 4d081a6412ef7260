/- The program's checker: the innermost block; a block ends. The program's checker: the innermost local of a name. The program's checker: the blocks, the innermost first, one by one. The program's checker: find. The program's checker: a local is made. -/
import Derived.Test.YtnnppenlfocgiaaGreatDoorK20
import Derived.RangeFuncNested
import Derived.RangeFuncBound
import Derived.RangeFuncCalls
import Derived.RangeFuncLeaves
import Derived.RangeFuncBox
import Derived.Shelf.Abstract
import Derived.OwnWalkIn
import Derived.TacticsInMore
import Derived.LoopNIn
import Derived.LoopIn
namespace Go.Proofs.YtnnppenlfocgiaaGreatDoor
open Go.RowKit
open Go

theorem kvB_len (n : Nat) (b : List Lc) : (kvB n b).length = b.length := by simp [kvB]
theorem ents_size {α : Type} (kf : α → Value) (kv : List (α × Value)) : (ents kf kv).size = kv.length := by simp [ents]
/-- A row of one-cell values: what is there. -/
theorem own_one {base T : Nat} {W : World} {b : Option Addr} {n d : Nat} {xs : List Value} (h : W.ownsRow base T 1 (.slice b n d) n xs) {j : Nat} {v : Value} (hv : xs[j]? = some v) (hj : j < n) : ∃ g, b = some ⟨g, 0, none⟩ ∧ W.cell? ⟨g, j, none⟩ = some v ∧ n ≤ d := by
  rcases h.2 with ⟨e, h0⟩ | ⟨g, cap, cur, e, _, hg, hcap, _, _, ht⟩
  · omega
  · cases e
    refine ⟨g, rfl, ?_, hcap⟩
    rw [← ht, List.getElem?_take_of_lt (by omega)] at hv
    have hf2 : cur[j]? = some v := by simpa using hv
    simp [World.cell?, hg, hf2]
/-- Another number of locals. -/
theorem Ck.live {w0 : World} {B : Nat} {u : Nd} {ub : Option Addr} {uc fm : Nat} {O : Nat → Prop} {sl : List Int} {bl : List (List Lc)} {lv : Nat} {W : World} (h : Ck w0 B u ub uc fm O sl bl lv W) (l : Nat) : Ck w0 B u ub uc fm O sl bl l (W.setCell ⟨B, 7, none⟩ (.int .i64 (l : Nat))) ∧ CK O W O (W.setCell ⟨B, 7, none⟩ (.int .i64 (l : Nat))) := by
  obtain ⟨⟨sb, sc, bb, bc, ms, h1, h2, h3, h4, h5, h6, h7, h8⟩, hB, hO, ⟨kv, hkv, hf⟩, hn, hbl⟩ := h
  have hk : Keeps O W (W.setCell ⟨B, 7, none⟩ (.int .i64 (l : Nat))) := (Keeps.refl O W).set B 7 _ (fun _ => hB)
  have hoth : ∀ p, p ≠ B → (W.setCell ⟨B, 7, none⟩ (.int .i64 (l : Nat))).heap[p]? = W.heap[p]? := fun p hp => set1_other _ _ hp
  have hs : (W.setCell ⟨B, 7, none⟩ (.int .i64 (l : Nat))).heap.size = W.heap.size := by simp
  exact ⟨⟨⟨sb, sc, bb, bc, ms, set_block (i := 7) _ h1, own_keepT h2 (fun p e _ => hoth p (h6 p e).2.1), own_keepT h3 (fun p e _ => hoth p (h7 p e).2.1), h4.keep (fun m hm => hoth m (h8 m hm).2), h5, h6, h7, h8⟩, hB, fun k hk => ⟨(hO k hk).1, by rw [hs]; exact (hO k hk).2⟩, ⟨kv, hkv, hk.box hf hn⟩, hn, below_keep hbl hk (fun k h => (hO k h).1)⟩, hk, fun _ => .inl⟩
/-- The innermost block. -/
theorem Ck.top {w0 : World} {B : Nat} {u : Nd} {ub : Option Addr} {uc fm : Nat} {O : Nat → Prop} {sl : List Int} {b : List Lc} {r : List (List Lc)} {lv : Nat} {W : World} (h : Ck w0 B u ub uc fm O sl (b :: r) lv W) : ∃ gb bc q, W.cell? ⟨B, 6, none⟩ = some (.slice (some ⟨gb, 0, none⟩) (r.length + 1) bc) ∧ W.frozen? ⟨B, 6, none⟩ = false ∧ r.length + 1 ≤ bc ∧ gb ≠ B ∧ W.cell? ⟨gb, r.length, none⟩ = some (mp q) ∧ q ≠ B ∧ q ≠ gb ∧ O q ∧ W.heap[q]? = some (mapObj sk (kvB (sumL r) b)) ∧
    (Ck w0 B u ub uc fm O sl r lv (W.setCell ⟨B, 6, none⟩ (.slice (some ⟨gb, 0, none⟩) r.length bc)) ∧ CK O W O (W.setCell ⟨B, 6, none⟩ (.slice (some ⟨gb, 0, none⟩) r.length bc))) ∧
    (∀ x : Lc, Ck w0 B u ub uc fm O sl ((b ++ [x]) :: r) lv ({ W with heap := W.heap.setIfInBounds q (mapObj sk (kvB (sumL r) b ++ [(x.nm, lcv (sumL (b :: r)) x.fx)])) } : World) ∧ CK O W O ({ W with heap := W.heap.setIfInBounds q (mapObj sk (kvB (sumL r) b ++ [(x.nm, lcv (sumL (b :: r)) x.fx)])) } : World)) := by
  obtain ⟨⟨sb, sc, bb, bc, ms, h1, h2, h3, h4, h5, h6, h7, h8⟩, hB, hO, ⟨kv, hkv, hf⟩, hn, hbl⟩ := h
  match ms, h4 with
  | q :: ms, h4 =>
  have hml := h4.2.len
  have hlast : ((q :: ms).reverse.map mp)[r.length]? = some (mp q) := by
    simp only [List.reverse_cons, List.map_append, List.map_cons, List.map_nil]
    rw [List.getElem?_append_right (by simp; omega)]
    simp [hml]
  obtain ⟨gb, rfl, hc, hcap⟩ := own_one h3 hlast (by simp)
  obtain ⟨hOg, hgB, hgm, hgs⟩ := h7 gb rfl
  obtain ⟨hOq, hqB⟩ := h8 q (by simp)
  have hqg : q ≠ gb := fun e => hgm (by simp [e])
  refine ⟨gb, bc, q, cell_block h1 rfl, frozen_block h1, by simpa using hcap, hgB, hc, hqB, hqg, hOq, h4.1, ?_, fun x => ?_⟩
  · have hk : Keeps O W (W.setCell ⟨B, 6, none⟩ (.slice (some ⟨gb, 0, none⟩) r.length bc)) := (Keeps.refl O W).set B 6 _ (fun _ => hB)
    have hoth : ∀ p, p ≠ B → (W.setCell ⟨B, 6, none⟩ (.slice (some ⟨gb, 0, none⟩) r.length bc)).heap[p]? = W.heap[p]? := fun p hp => set1_other _ _ hp
    have hs : (W.setCell ⟨B, 6, none⟩ (.slice (some ⟨gb, 0, none⟩) r.length bc)).heap.size = W.heap.size := by simp
    refine ⟨⟨⟨sb, sc, some ⟨gb, 0, none⟩, bc, ms, set_block (i := 6) _ h1, own_keepT h2 (fun p e _ => hoth p (h6 p e).2.1), ?_, h4.2.keep (fun m hm => hoth m (h8 m (by simp [hm])).2), (List.nodup_cons.1 h5).2, fun p e => ⟨(h6 p e).1, (h6 p e).2.1, fun hm => (h6 p e).2.2 (by simp [hm])⟩, fun p e => ?_, fun m hm => h8 m (by simp [hm])⟩, hB, fun k hk => ⟨(hO k hk).1, by rw [hs]; exact (hO k hk).2⟩, ⟨kv, hkv, hk.box hf hn⟩, hn, below_keep hbl hk (fun k h => (hO k h).1)⟩, hk, fun _ => .inl⟩
    · have h3' : W.ownsRow w0.heap.size 125 1 (.slice (some ⟨gb, 0, none⟩) r.length bc) r.length (ms.reverse.map mp) := by
        refine ⟨by simp [hml], ?_⟩
        rcases h3.2 with ⟨e, h0⟩ | ⟨g, cap, cur, e, hbase, hg, hcap, hmax, hsz, ht⟩
        · simp at h0
        · cases e
          refine .inr ⟨gb, bc, cur, rfl, hbase, hg, by simp at hcap; omega, hmax, hsz, ?_⟩
          have e2 := congrArg (List.take (r.length * 1)) ht
          rw [List.take_take, Nat.min_eq_left (by simp)] at e2
          rw [e2]
          simp only [List.reverse_cons, List.map_append, List.map_cons, List.map_nil]
          rw [List.take_append_of_le_length (by simp; omega)]
          exact List.take_of_length_le (by simp; omega)
      exact own_keepT h3' (fun p e _ => by simp [Value.ownBlock] at e; subst e; exact hoth _ hgB)
    · simp [Value.ownBlock] at e
      subst e
      exact ⟨hOg, hgB, fun hm => hgm (by simp [hm]), hgs⟩
  · have hkv' : kvB (sumL r) b ++ [(x.nm, lcv (sumL (b :: r)) x.fx)] = kvB (sumL r) (b ++ [x]) := by
      rw [sumL_cons, Nat.add_comm]
      simp [kvB, List.mapIdx_append]
    rw [hkv']
    obtain ⟨W1, hW1⟩ : ∃ W1 : World, { W with heap := W.heap.setIfInBounds q (mapObj sk (kvB (sumL r) (b ++ [x]))) } = W1 := ⟨_, rfl⟩
    have hk : Keeps O W W1 := by
      rw [← hW1]
      exact ⟨rfl, rfl, rfl, by simp, fun k hk hs => by
        have : k ≠ q := fun e => hs (e ▸ hOq)
        simp [Ne.symm this]⟩
    have hq1 : W1.heap[q]? = some (mapObj sk (kvB (sumL r) (b ++ [x]))) := by
      rw [← hW1]
      simp [block_lt h4.1]
    have hoth : ∀ p, p ≠ q → W1.heap[p]? = W.heap[p]? := fun p hpq => by rw [← hW1]; simp [Ne.symm hpq]
    rw [hW1]
    have hs : W1.heap.size = W.heap.size := by rw [← hW1]; simp
    exact ⟨⟨⟨sb, sc, some ⟨gb, 0, none⟩, bc, q :: ms, (hoth B (Ne.symm hqB)).trans h1, own_keepT h2 (fun p e _ => hoth p (fun e2 => (h6 p e).2.2 (by simp [e2]))), own_keepT h3 (fun p e _ => hoth p (fun e2 => (h7 p e).2.2.1 (by simp [e2]))), ⟨hq1, h4.2.keep (fun m hm => hoth m (fun e => (List.nodup_cons.1 h5).1 (e ▸ hm)))⟩, h5, h6, h7, h8⟩, hB, fun k hk => ⟨(hO k hk).1, by rw [hs]; exact (hO k hk).2⟩, ⟨kv, hkv, hk.box hf hn⟩, hn, below_keep hbl hk (fun k h => (hO k h).1)⟩, hk, fun _ => .inl⟩
set_option maxRecDepth 20000 in
set_option maxHeartbeats 2000000 in
/-- A block ends. -/
theorem end_any (w0 : World) (B : Nat) (u : Nd) (ub : Option Addr) (uc fm : Nat) (O : Nat → Prop) (sl : List Int) (b : List Lc) (r : List (List Lc)) (lv : Nat) (W : World) (h : Ck w0 B u ub uc fm O sl (b :: r) lv W) (hr : r.length ≤ 100000) (hlv : lv ≤ 100000) (hlv2 : lv = sumL (b :: r)) : Calls Tryz.prog 69 #[.pointer (some ⟨B, 0, none⟩)] W fun e W' => e = .returned (.tuple #[]) ∧ Ck w0 B u ub uc fm O sl r (sumL r) W' ∧ CK O W O W' := by
  have hbd : Below W.heap.size W W.drew := (Below.refl _ _).drew
  have hCK := CK.below (O := O) hbd
  have hcs := h.cells
  replace h := h.on hbd
  obtain ⟨hL, hLK⟩ := h.live (sumL r)
  obtain ⟨gb, bc, q, c6, f6, hcap, hgB, hc, hqB, hqg, hOq, hq, _, _⟩ := h.top
  obtain ⟨gb2, bc2, q2, c62, f62, hcap2, hgB2, hc2, hqB2, hqg2, hOq2, hq2, ⟨hcl, hclk⟩, _⟩ := hL.top
  have ec : (W.drew.setCell ⟨B, 7, none⟩ (.int .i64 (sumL r : Nat))).cell? ⟨B, 6, none⟩ = W.drew.cell? ⟨B, 6, none⟩ := by
    obtain ⟨⟨sb, sc, bb, bc, ms, h1, _⟩, _⟩ := h
    exact (cell_block (i := 6) (v := .slice bb (b :: r).length bc) (set_block (i := 7) _ h1) rfl).trans (cell_block (i := 6) h1 rfl).symm
  rw [ec, c6] at c62
  cases c62
  have c6' : W.cell? ⟨B, 6, none⟩ = some (.slice (some ⟨gb, 0, none⟩) (r.length + 1) bc) := c6
  have hc' : W.cell? ⟨gb, r.length, none⟩ = some (mp q) := hc
  have f6' : W.frozen? ⟨B, 6, none⟩ = false := f6
  obtain ⟨_, _, c7, f7⟩ := hcs
  obtain ⟨es, hes⟩ : ∃ es, ents sk (kvB (sumL r) b) = es := ⟨_, rfl⟩
  obtain ⟨ck, hck⟩ : ∃ ck, (kvB (sumL r) b).length = ck := ⟨_, rfl⟩
  have hq' : W.heap[q]? = some (.map es ck) := by
    have : W.heap[q]? = some (mapObj sk (kvB (sumL r) b)) := hq
    rw [this, mapObj, hes, hck]
  have hsz : es.size = b.length := by rw [← hes, ents_size, kvB_len]
  obtain ⟨n, hn⟩ : ∃ n, r.length = n := ⟨_, rfl⟩
  obtain ⟨sr, hsr⟩ : ∃ sr, sumL r = sr := ⟨_, rfl⟩
  rw [sumL_cons] at hlv2
  rw [hsr] at hlv2 f62 hcl hclk hL hLK ⊢
  rw [hn] at c6 c6' hc hc' hr hcap hcl hclk
  have hw : IntKind.i64.wrap ((lv : Int) - (es.size : Int)) = (sr : Int) := by rw [hsz, IntKind.wrap_i64]; omega
  clear hsz hlv2
  have hn1 : (n : Int) ≤ (bc : Int) := by omega
  have hn0 : (0 : Int) ≤ (n : Int) := by omega
  have hn2 : (n : Int) < ((n + 1 : Nat) : Int) := by omega
  have hlen : (Builtin.len_ #[125] 3 #[.map (some q)]).run Tryz.prog W.drew = .ok (goInt es.size) W.drew := run_len_map (P := Tryz.prog) W.drew 125 3 q es ck (by kernel_rfl) hq'
  clear hes hck hq
  go_enter Tryz.func69, Tryz.ntmps69
  go_wp2
  go_region_with (fail)
  all_goals
    go_wp2
    go_end0
    exact ⟨rfl, hcl, hCK.trans (hLK.trans hclk)⟩
end Go.Proofs.YtnnppenlfocgiaaGreatDoor
namespace Go.Proofs.YtnnppenlfocgiaaGreatDoor
open Go.RowKit
open Go

/-- In a block's map. -/
theorem kvB_look (n : Nat) (s : List UInt8) : ∀ (b : List Lc), (kvB n b).lookup s = (b.findIdx? (fun x => x.nm == s)).map fun i => lcv (n + i) ((b[i]?.map Lc.fx).getD false) := by
  intro b
  induction b generalizing n with
  | nil => rfl
  | cons x l ih =>
    have e : kvB n (x :: l) = (x.nm, lcv n x.fx) :: kvB (n + 1) l := by
      simp only [kvB, List.mapIdx_cons, Nat.add_zero]
      congr 1
      apply List.ext_getElem?
      intro i
      simp only [List.getElem?_mapIdx]
      cases l[i]? with
      | none => rfl
      | some y => simp [Nat.add_assoc, Nat.add_comm 1 i]
    rw [e, List.lookup_cons, List.findIdx?_cons]
    by_cases hx : x.nm = s
    · subst hx
      simp
    · have h1 : (s == x.nm) = false := by simpa using fun h => hx h.symm
      have h2 : (x.nm == s) = false := by simpa using hx
      rw [h1, h2, ih]
      simp only [Bool.false_eq_true, if_false]
      cases hf : l.findIdx? (fun x => x.nm == s) with
      | none => rfl
      | some i => simp [Nat.add_assoc, Nat.add_comm 1 i]
theorem kvB_keys (n : Nat) (b : List Lc) : (kvB n b).map (·.1) = b.map Lc.nm := by
  apply List.ext_getElem?
  intro i
  simp only [kvB, List.getElem?_map, List.getElem?_mapIdx]
  cases b[i]? <;> rfl
/-- What find answers. -/
def findV (s : List UInt8) (bl : List (List Lc)) : Value := match findL s bl with
  | some p => .tuple #[lcv p.1 p.2, .bool true]
  | none => .tuple #[lcv 0 false, .bool false]
end Go.Proofs.YtnnppenlfocgiaaGreatDoor
namespace Go.Proofs.YtnnppenlfocgiaaGreatDoor
open Go.RowKit Go.Shelf
open Go

attribute [local go_sem] Oper.semAt_some
def Kept (m Bt : Nat) (W W' : World) : Prop := Below m W W' ∧ W'.heap[Bt]? = W.heap[Bt]?
theorem Kept.refl (m Bt : Nat) (W : World) : Kept m Bt W W := ⟨Below.refl _ _, rfl⟩
theorem Kept.trans {m Bt : Nat} {A B C : World} (h : Kept m Bt A B) (k : Kept m Bt B C) : Kept m Bt A C := ⟨h.1.trans k.1, k.2.trans h.2⟩
theorem Kept.putObj {m Bt : Nat} {w : World} (hn : m ≤ w.heap.size) (hB : Bt < w.heap.size) (W : World) (l : Nat) (o o' : Obj) (hl : w.heap.size ≤ l) (h : W.heap[l]? = some o) (h1 : o.isCells = false) (h2 : o.isWalk = false) : Kept m Bt W (W.putObj l o') :=
  ⟨belowK_b hn W l o o' hl h h1 h2, World.putObj_heap_other (by omega)⟩
theorem kept_of_below {m Bt : Nat} {W W' : World} (h : Below W.heap.size W W') (hm : m ≤ W.heap.size) (hB : Bt < W.heap.size) : Kept m Bt W W' := ⟨h.mono hm, h.block Bt hB⟩
theorem keepsFrom_of_below {B : Nat} {W W' : World} (h : Below W.heap.size W W') : KeepsFrom B W W' := ⟨h.size, fun k _ _ hk _ => (h.block k (Array.getElem?_eq_some_iff.1 hk).1).trans hk⟩
theorem two_ways {e : Ending} {A B : Prop} (h : (e = .returned (.bool true) ∧ A) ∨ (e = .returned (.bool false) ∧ B)) : ∃ bb : Bool, e = .returned (.bool bb) ∧ ((bb = true ∧ A) ∨ (bb = false ∧ B)) := by
  rcases h with ⟨rfl, h⟩ | ⟨rfl, h⟩
  · exact ⟨true, rfl, .inl ⟨rfl, h⟩⟩
  · exact ⟨false, rfl, .inr ⟨rfl, h⟩⟩
theorem take_snoc {α : Type} {zs : List α} {k : Nat} {x : α} (h : zs[k]? = some x) : zs.take (k + 1) = zs.take k ++ [x] := by
  rw [List.take_add_one, h]; rfl
theorem prefix_snoc {α : Type} {zs : List α} {k : Nat} {x : α} (h : zs[k]? = some x) : zs.take k ++ [x] <+: zs := by
  rw [← take_snoc h]; exact List.take_prefix _ _
theorem block_ownFrom {β : Type} {B B' : Nat} (o : Obj) (h : B < B') : OwnFrom B' (fun (_ : β) W => W.heap[B]? = some o) := fun _ _ _ _ hs hg hr =>
  (hg.block B (Array.getElem?_eq_some_iff.1 hs).1 (fun e => by have := (hr _ e.symm).1; omega)).trans hs
theorem size_ownFrom {β : Type} {B k : Nat} : OwnFrom B (fun (_ : β) W => k ≤ W.heap.size) := fun _ _ _ _ hs hg _ => Nat.le_trans hs hg.size
theorem block_put {W : World} {B D : Nat} {o o' : Obj} (h : W.heap[B]? = some o) (hne : B ≠ D) : (W.putObj D o').heap[B]? = some o := (World.putObj_heap_other hne).trans h

abbrev itv {α : Type} (fi fq : α → Nat) (x : α) : Array Value := #[.int .i64 (fi x : Nat), mp (fq x)]
set_option maxRecDepth 100000 in
set_option maxHeartbeats 2000000 in
/-- One by one: for every loop body. -/
theorem back1_in {α : Type} (fi fq : α → Nat) (n : Nat) (l Bt m gb c1 : Nat) (zs : List α) (hlen : zs.length ≤ 100000)
    (hb : gb < m) (a : Option Addr) (ha : zs ≠ [] → a = some ⟨gb, 0, none⟩) (J Jx : List α → World → Prop)
    (hY : ∀ pre x W, J pre W → pre.length < zs.length → YieldAt Fence.wide (n - 1) Tryz.prog l (itv fi fq x) W fun e W' =>
      (e = .returned (.bool true) ∧ J (pre ++ [x]) W' ∧ Kept m Bt W W') ∨ (e = .returned (.bool false) ∧ Jx (pre ++ [x]) W'))
    (W : World) (hbt : W.heap[Bt]? = some (.cells #[.slice a zs.length c1] 64))
    (hc : ∀ (k : Nat) (x : α), zs[k]? = some x → W.cell? ⟨gb, fi x, none⟩ = some (mp (fq x))) (hx1 : ∀ (k : Nat) (x : α), zs[k]? = some x → fi x + k + 1 = zs.length) (h0 : J [] W) :
    CallsIn Fence.wide n Tryz.prog 136 #[.func (.yield l) #[] #[], .pointer (some ⟨Bt, 0, none⟩)] W fun e W' => (∃ v, e = .returned v) ∧
      ((∃ ys, ys = zs ∧ J ys W') ∨ (∃ pre, pre <+: zs ∧ Jx pre W')) := by
  have hk0 : W.cell? ⟨Bt, 0, none⟩ = some (.slice a zs.length c1) := by simp [World.cell?, hbt]
  obtain ⟨L, hL⟩ : ∃ L, zs.length = L := ⟨_, rfl⟩
  rw [hL] at hk0 hbt hlen
  replace hL : Hid _ := hL
  refine callsIn_of_wp Tryz.func136 rfl trivial ?_ rfl
  simp only [Tryz.ntmps136, List.size_toArray, List.length_cons, List.length_nil, Nat.reduceAdd, Nat.reduceSub, Array.replicate_succ, Array.replicate_zero, List.push_toArray, List.append_toArray, List.nil_append, List.cons_append]
  gi_wp2
  gi_loopw [3] (fun i wr => ∃ k : Nat, k ≤ L ∧ i = .int .i64 ((L : Int) - 1 - k) ∧ J (zs.take k) wr ∧ Kept m Bt W wr ∧ W.heap.size ≤ wr.heap.size)
    (fun i _ => (intOf i + 1).toNat)
  case atStart => exact ⟨0, Nat.zero_le _, by go_num, h0, Kept.refl _ _ _, Nat.le_refl _⟩
  case round =>
    obtain ⟨k, hk, rfl, hJs, hnx, hsz⟩ := hrel
    by_cases hlt : k < L
    · obtain ⟨x, hx⟩ : ∃ x, zs[k]? = some x := ⟨zs[k]'(by have := hL.out; omega), by simp⟩
      obtain rfl := ha (fun e => by rw [e] at hx; simp at hx)
      have hxe := hx1 k x hx
      have hxc := (hnx.1.cell (p := ⟨gb, fi x, none⟩) hb).trans (hc k x hx)
      have hi : (L : Int) - 1 - k = (fi x : Int) := by have := hL.out; omega
      have hi0 : (0 : Int) ≤ (fi x : Int) := by omega
      have hi1 : (fi x : Int) < (L : Int) := by omega
      have hq0 : wr.cell? ⟨Bt, 0, none⟩ = some (.slice (some ⟨gb, 0, none⟩) L c1) := by simp [World.cell?, hnx.2, hbt]
      obtain ⟨fn, tmps, assign, body, hy, hR⟩ := hY _ x wr hJs (by have := hL.out; simp; omega)
      rw [hi]
      clear hY hk0
      gi_wp2_with (refine ⟨fun h => by simp [Fence.wide] at h, ?_⟩; refine hR.mono ?_; intro e W3 hW3; obtain ⟨bb, rfl, hbb⟩ := two_ways hW3; clear hW3)
      · rcases hbb with ⟨rfl, hJ3, hk3⟩ | ⟨rfl, hJx3⟩
        · simp_all
        · refine bodyPost_ret (results_none rfl _ _ _) rfl ?_
          exact ⟨⟨_, rfl⟩, .inr ⟨_, prefix_snoc hx, hJx3⟩⟩
      case roundEnd =>
        rcases hbb with ⟨rfl, hJ3, hk3⟩ | ⟨rfl, hJx3⟩
        · refine ⟨⟨k + 1, by omega, by rw [← hi]; congr 1; omega, by rw [take_snoc hx]; exact hJ3, hnx.trans hk3, Nat.le_trans hsz hk3.1.size⟩, by simp [intOf]⟩
        · simp_all
    · obtain rfl : k = L := by omega
      have hi : (k : Int) - 1 - k = -1 := by omega
      rw [hi]
      gi_wp2
      go_end0
      exact ⟨⟨_, rfl⟩, .inl ⟨_, by rw [← hL.out]; simp, hJs⟩⟩
/-- Which blocks come, in order. -/
def items : List Nat → List (Nat × Nat)
  | [] => []
  | q :: ms => (ms.length, q) :: items ms
theorem items_len : ∀ ms, (items ms).length = ms.length
  | [] => rfl
  | q :: ms => by rw [items, List.length_cons, List.length_cons, items_len ms]
theorem items_get : ∀ {ms : List Nat} {k : Nat} {x : Nat × Nat}, (items ms)[k]? = some x → x.1 + k + 1 = ms.length ∧ ms[k]? = some x.2
  | [], k, x, h => by simp [items] at h
  | q :: ms, 0, x, h => by
    simp [items] at h
    subst h
    simp
  | q :: ms, k + 1, x, h => by
    rw [items, List.getElem?_cons_succ] at h
    obtain ⟨h1, h2⟩ := items_get h
    exact ⟨by simp; omega, by simpa using h2⟩
theorem back_stops {α : Type} (fi fq : α → Nat) (n : Nat) (Bt m gb c1 : Nat) (ms : List Nat) (zs : List α) (hzs : zs.map (fun x => (fi x, fq x)) = items ms) (hlen : ms.length ≤ 100000) (a : Option Addr) (ha : ms ≠ [] → a = some ⟨gb, 0, none⟩ ∧ gb < m) (w : World) (hB : Bt < w.heap.size) (hm : m ≤ Bt)
    (hbt : w.heap[Bt]? = some (.cells #[.slice a ms.length c1] 64)) (hc : ∀ j q, (ms.reverse.map mp)[j]? = some q → w.cell? ⟨gb, j, none⟩ = some q) :
    SeqStopsK Fence.wide n Tryz.prog 136 #[.pointer (some ⟨Bt, 0, none⟩)] (itv fi fq) (Kept m Bt) (fun ys => ys = zs) (fun pre => pre <+: zs) zs.length w := fun l J Jx W hW hJ _ hY h0 => by
  have hbt' : W.heap[Bt]? = some (.cells #[.slice a ms.length c1] 64) := (hW.block Bt hB).trans hbt
  have hzl : zs.length = ms.length := by rw [← items_len, ← hzs, List.length_map]
  by_cases hz : ms = []
  · subst hz
    have : zs = [] := List.length_eq_zero_iff.1 hzl
    subst this
    refine back1_in fi fq n l Bt (gb + 1) gb c1 [] (by simp) (by omega) a (fun h => absurd rfl h) J Jx ?_ W hbt' (by simp) (by simp) h0
    intro pre x W _ h
    simp at h
  · obtain ⟨rfl, hgm⟩ := ha hz
    have key : ∀ (k : Nat) (x : α), zs[k]? = some x → fi x + k + 1 = ms.length ∧ ms[k]? = some (fq x) := fun k x hx => by
      have : (items ms)[k]? = some (fi x, fq x) := by rw [← hzs, List.getElem?_map, hx]; rfl
      exact items_get this
    refine back1_in fi fq n l Bt m gb c1 zs (by omega) hgm _ (fun _ => rfl) J Jx hY W (by rw [hzl]; exact hbt') (fun k x hx => ?_) (fun k x hx => by rw [hzl]; exact (key k x hx).1) h0
    obtain ⟨h1, h2⟩ := key k x hx
    refine (hW.cell (p := ⟨gb, fi x, none⟩) (show gb < w.heap.size by omega)).trans (hc _ _ ?_)
    rw [List.getElem?_map, List.getElem?_reverse (by omega)]
    rw [show ms.length - 1 - fi x = k by omega, h2]
    rfl
set_option maxHeartbeats 1000000 in
theorem backward_in (n : Nat) (v : Value) (a : Option Addr) (k c : Nat) (hv : v = .slice a k c) (w : World) :
    CallsIn Fence.wide n Tryz.prog 133 #[v] w fun e w' => e = .returned (.func (.func 136) #[] #[.pointer (some ⟨w.heap.size, 0, none⟩)]) ∧ w' = w.alloc (.cells #[v] 64) := by
  subst hv
  refine callsIn_of_wp Tryz.func133 rfl trivial ?_ rfl
  simp only [Tryz.ntmps133, List.size_toArray, List.length_cons, List.length_nil, Nat.reduceAdd, Nat.reduceSub, Array.replicate_succ, Array.replicate_zero, List.push_toArray, List.append_toArray, List.nil_append, List.cons_append]
  gi_wp2
  go_ret
  exact ⟨rfl, rfl⟩
end Go.Proofs.YtnnppenlfocgiaaGreatDoor
namespace Go.Proofs.YtnnppenlfocgiaaGreatDoor
open Go.RowKit Go.Shelf
open Go

attribute [local go_sem] Oper.semAt_some
abbrev lbx (i : Nat) (fx : Bool) : Obj := .cells #[.int .i64 (i : Nat), .bool fx] 164
theorem res122 {tm : Array Value} {W : World} {B C : Nat} {i : Nat} {fx ok : Bool} (h : tm[4]?.getD undef = .pointer (some ⟨B, 0, none⟩)) (h' : tm[5]?.getD undef = .pointer (some ⟨C, 0, none⟩)) (hx : W.heap[B]? = some (lbx i fx)) (hy : W.heap[C]? = some (.cells #[.bool ok] 4)) : (results Tryz.f122 tm).run Tryz.prog W = .ok (.tuple #[lcv i fx, .bool ok]) W := by
  have c0 : W.cell? ⟨B, 0, none⟩ = some (.int .i64 (i : Nat)) := cell_block hx rfl
  have c1 : W.cell? ⟨B, 1, none⟩ = some (.bool fx) := cell_block hx rfl
  have d0 : W.cell? ⟨C, 0, none⟩ = some (.bool ok) := cell_block hy rfl
  simp [results, Tryz.results122, go_sem, h, h', c0, c1, d0]
/-- A block of the checker's, by its place among the blocks. -/
theorem MapsAt.at {W : World} : ∀ {ms : List Nat} {bl : List (List Lc)}, MapsAt W ms bl → ∀ {k q : Nat}, ms[k]? = some q → ∃ b, bl[k]? = some b ∧ W.heap[q]? = some (mapObj sk (kvB (sumL (bl.drop (k + 1))) b))
  | [], [], _, k, q, h => by simp at h
  | p :: ms, b :: r, hm, 0, q, h => by
    simp at h
    subst h
    exact ⟨b, rfl, by simpa using hm.1⟩
  | p :: ms, b :: r, hm, k + 1, q, h => by
    obtain ⟨c, h1, h2⟩ := MapsAt.at hm.2 (by simpa using h)
    exact ⟨c, by simpa using h1, by simpa using h2⟩
  | [], _ :: _, h, _, _, _ => h.elim
  | _ :: _, [], h, _, _, _ => h.elim
/-- A block that is there. -/
structure It (w : World) where
  i : Nat
  q : Nat
  b : List Lc
  n : Nat
  hq : w.heap[q]? = some (mapObj sk (kvB n b))
  nd : (b.map Lc.nm).Nodup
theorem items_of {w : World} : ∀ {ms : List Nat} {bl : List (List Lc)}, MapsAt w ms bl → NB bl → ∃ zs : List (It w), zs.map (fun x => (x.i, x.q)) = items ms ∧ zs.map It.b = bl ∧ ∀ (k : Nat) (x : It w), zs[k]? = some x → x.n = sumL (bl.drop (k + 1))
  | [], [], _, _ => ⟨[], rfl, rfl, by simp⟩
  | q :: ms, b :: r, h, hN => by
    obtain ⟨zs, h1, h2, h3⟩ := items_of h.2 (fun c hc => hN c (by simp [hc]))
    refine ⟨⟨ms.length, q, b, sumL r, h.1, hN b (by simp)⟩ :: zs, by rw [List.map_cons, h1]; rfl, by rw [List.map_cons, h2], fun k x hx => ?_⟩
    match k, hx with
    | 0, hx => simp at hx; subst hx; simp
    | k + 1, hx => simpa using h3 k x (by simpa using hx)
  | [], _ :: _, h, _ => h.elim
  | _ :: _, [], h, _ => h.elim
theorem findL_all {s : List UInt8} : ∀ {bl : List (List Lc)}, (∀ b ∈ bl, b.findIdx? (fun x => x.nm == s) = none) → findL s bl = none
  | [], _ => rfl
  | b :: r, h => by rw [findL, h b (by simp)]; exact findL_all (fun c hc => h c (by simp [hc]))
theorem findL_at {s : List UInt8} : ∀ {pre : List (List Lc)} {b : List Lc} {r : List (List Lc)} {i : Nat}, (∀ c ∈ pre, c.findIdx? (fun x => x.nm == s) = none) → b.findIdx? (fun x => x.nm == s) = some i → findL s (pre ++ b :: r) = some (sumL r + i, (b[i]?.map Lc.fx).getD false)
  | [], b, r, i, _, h => by rw [List.nil_append, findL, h]
  | c :: pre, b, r, i, hp, h => by rw [List.cons_append, findL, hp c (by simp)]; exact findL_at (fun d hd => hp d (by simp [hd])) h

set_option maxRecDepth 100000 in
set_option maxHeartbeats 2000000 in
theorem find_in (n : Nat) (h3 : 3 ≤ n) (w0 : World) (B : Nat) (u : Nd) (ub : Option Addr) (uc fm : Nat) (O : Nat → Prop) (sl : List Int) (bl : List (List Lc)) (lv : Nat) (s : List UInt8) (w : World) (h : Ck w0 B u ub uc fm O sl bl lv w) (hNB : NB bl) (hlen : bl.length ≤ 100000) :
    CallsIn Fence.wide n Tryz.prog 122 #[.pointer (some ⟨B, 0, none⟩), sk s] w fun e w' => e = .returned (findV s bl) ∧ Below w.heap.size w w' := by
  have h1 : 1 ≤ n := by omega
  have hn1 : 1 ≤ n - 1 := by omega
  obtain ⟨⟨sb, sc, bb, bc, ms, g1, g2, g3, g4, g5, g6, g7, g8⟩, hB, hO, _, _, _⟩ := h
  have hml := g4.len
  have hBw := (hO B hB).2
  have c6 : w.cell? ⟨B, 6, none⟩ = some (.slice bb bl.length bc) := cell_block g1 rfl
  have hb0 : Below w.heap.size w (((w.alloc (.cells #[sk s] 9)).alloc (lbx 0 false)).alloc (.cells #[.bool false] 4)) := ext_alloc (ext_alloc (ext_alloc (Below.refl _ _) _) _) _
  obtain ⟨W1, hW1⟩ : ∃ W1, ((w.alloc (.cells #[sk s] 9)).alloc (lbx 0 false)).alloc (.cells #[.bool false] 4) = W1 := ⟨_, rfl⟩
  have hs1 : W1.heap.size = w.heap.size + 3 := by rw [← hW1]; simp
  have k1 : W1.heap[w.heap.size]? = some (.cells #[sk s] 9) := by rw [← hW1]; exact block_alloc _ (block_alloc _ (alloc_new w _))
  have k2 : W1.heap[w.heap.size + 1]? = some (lbx 0 false) := by
    have := block_alloc (.cells #[.bool false] 4) (alloc_new (w.alloc (.cells #[sk s] 9)) (lbx 0 false))
    rw [World.size_alloc] at this
    rw [← hW1]; exact this
  have k3 : W1.heap[w.heap.size + 1 + 1]? = some (.cells #[.bool false] 4) := by
    have := alloc_new ((w.alloc (.cells #[sk s] 9)).alloc (lbx 0 false)) (.cells #[.bool false] 4)
    simp only [World.size_alloc] at this
    rw [← hW1]; exact this
  have c6' : W1.cell? ⟨B, 6, none⟩ = some (.slice bb bl.length bc) := by rw [← hW1]; exact (hb0.cell (p := ⟨B, 6, none⟩) hBw).trans c6
  rw [hW1] at hb0
  refine callsIn_of_wp_marks Tryz.func122 rfl trivial ?_ rfl
  simp only [Tryz.ntmps122, List.size_toArray, List.length_cons, List.length_nil, Nat.reduceAdd, Nat.reduceSub, Array.replicate_succ, Array.replicate_zero, List.push_toArray, List.append_toArray, List.nil_append, List.cons_append]
  replace hW1 : ((w.alloc (.cells #[sk s] 9)).alloc (.cells #[.int .i64 0, .bool false] 164)).alloc (.cells #[.bool false] 4) = W1 := hW1
  gi_wp2_with (refine ⟨trivial, ?_⟩; gi_at_call 133; refine (backward_in _ _ _ _ _ rfl _).mono ?_; rintro e w' ⟨rfl, rfl⟩)
  have hb2 : Below w.heap.size w (W1.alloc (.cells #[.slice bb bl.length bc] 64)) := ext_trans hb0 (ext_alloc (Below.refl _ _) _)
  obtain ⟨W0, hW0⟩ : ∃ W0, W1.alloc (.cells #[.slice bb bl.length bc] 64) = W0 := ⟨_, rfl⟩
  have hs0 : W0.heap.size = w.heap.size + 4 := by rw [← hW0, World.size_alloc, hs1]
  have hbt : W0.heap[w.heap.size + 3]? = some (.cells #[.slice bb bl.length bc] 64) := by
    have := alloc_new W1 (.cells #[.slice bb bl.length bc] 64)
    rw [hs1] at this
    rw [← hW0]; exact this
  replace k1 : W0.heap[w.heap.size]? = some (.cells #[sk s] 9) := by rw [← hW0]; exact block_alloc _ k1
  replace k2 : W0.heap[w.heap.size + 1]? = some (lbx 0 false) := by rw [← hW0]; exact block_alloc _ k2
  replace k3 : W0.heap[w.heap.size + 1 + 1]? = some (.cells #[.bool false] 4) := by rw [← hW0]; exact block_alloc _ k3
  rw [hW0] at hb2 ⊢
  clear hW0 c6 c6' hW1 hb0
  obtain ⟨gb, hgb, hrow⟩ : ∃ gb, (ms ≠ [] → bb = some ⟨gb, 0, none⟩ ∧ gb < w.heap.size) ∧ ∀ j q, (ms.reverse.map mp)[j]? = some q → w.cell? ⟨gb, j, none⟩ = some q := by
    rcases g3.2 with ⟨e, h0⟩ | ⟨g, cap, cur, e, _, hg, hcap, _, _, ht⟩
    · have : ms = [] := List.length_eq_zero_iff.1 (by omega)
      subst this
      exact ⟨0, fun h => absurd rfl h, by simp⟩
    · cases e
      refine ⟨g, fun _ => ⟨rfl, block_lt hg⟩, fun j q hq => ?_⟩
      have hjl : j < ms.length := by simpa using (List.getElem?_eq_some_iff.1 hq).1
      rw [← ht, List.getElem?_take_of_lt (by omega)] at hq
      have hf2 : cur[j]? = some q := by simpa using hq
      simp [World.cell?, hg, hf2]
  obtain ⟨zs, hz1, hz2, hz3⟩ := items_of g4 hNB
  refine wpIn_rangeFunc_ownH rfl h1 (gf := 136) (lb := #[.pointer (some ⟨w.heap.size + 3, 0, none⟩)]) rfl trivial (enters_of Tryz.func136 (by kernel_rfl) rfl)
    (back_stops It.i It.q (n - 1) (w.heap.size + 3) w.heap.size gb bc ms zs hz1 (by omega) bb hgb W0 (by omega) (by omega) (by rw [hml]; exact hbt) (fun j q hq => (hb2.cell (p := ⟨gb, j, none⟩) (World.block_lt_of_cell? _ _ (hrow j q hq))).trans (hrow j q hq))) (fun h k => h.trans k) (Kept.putObj (by omega) (by omega)) (Below.refl _ _) (fun _ => rfl)
    (fun (pre : List (It w)) W => ((∀ p ∈ pre, p.b.findIdx? (fun x => x.nm == s) = none) ∧ W0.heap.size ≤ W.heap.size ∧ W.heap[w.heap.size]? = some (.cells #[sk s] 9) ∧ W.heap[w.heap.size + 1]? = some (lbx 0 false) ∧ W.heap[w.heap.size + 1 + 1]? = some (.cells #[.bool false] 4)) ∧ Below w.heap.size w W)
    (fun c (pre : List (It w)) W => (c = .ret ∧ (∃ y : Nat × Bool, (∃ ini x i, pre = ini ++ [x] ∧ (∀ p ∈ ini, p.b.findIdx? (fun x => x.nm == s) = none) ∧ x.b.findIdx? (fun x => x.nm == s) = some i ∧ y = (x.n + i, (x.b[i]?.map Lc.fx).getD false)) ∧ W.heap[w.heap.size + 1]? = some (lbx y.1 y.2) ∧ W.heap[w.heap.size + 1 + 1]? = some (.cells #[.bool true] 4))) ∧ Below w.heap.size w W)
    (OwnFrom.and (OwnFrom.and (ownFrom_pure _ _) (OwnFrom.and size_ownFrom (OwnFrom.and (block_ownFrom _ (by omega)) (OwnFrom.and (block_ownFrom _ (by omega)) (block_ownFrom _ (by omega)))))) (ownFrom_below (Nat.le_refl _) (by omega)))
    (fun c => OwnFrom.and (fun s A B row hs hg hr => by obtain ⟨e1, y, e2, e3, e4⟩ := hs; exact ⟨e1, y, e2, (block_ownFrom (β := Unit) _ (by omega)) () A B row e3 hg hr, (block_ownFrom (β := Unit) _ (by omega)) () A B row e4 hg hr⟩) (ownFrom_below (Nat.le_refl _) (by omega)))
    ⟨⟨by simp, Nat.le_refl _, k1, k2, k3⟩, hb2⟩
    (fun x q W => q = { tmps := #[.pointer (some ⟨B, 0, none⟩), sk s, undef, .pointer (some ⟨w.heap.size, 0, none⟩), .pointer (some ⟨w.heap.size + 1, 0, none⟩), .pointer (some ⟨w.heap.size + 1 + 1, 0, none⟩), undef, mp x.q, undef, undef, .pointer (some ⟨B, 0, none⟩), .pointer (some ⟨B, 0, none⟩), .pointer (some ⟨B, 6, none⟩), .slice bb bl.length bc, .func (.func 136) #[] #[.pointer (some ⟨w.heap.size + 3, 0, none⟩)],   .int .i64 (x.i : Nat), mp x.q, undef, undef, undef, undef, undef, undef, undef, undef, undef], defers := [] })
    (fun x q => fun _ A B row hs hg hr => hs)
    ?assign ?body ?done ?stop
  case assign =>
    rintro l pre x W K hJ hK
    gi_wp2
    exact hK _ _ (KeepsFrom.refl _ _) (Kept.refl _ _ _) hJ rfl
  case body =>
    rintro l pre x q W hl ⟨r, hr⟩ ⟨⟨hp, hz, k1, k2, k3⟩, hB⟩ rfl hlt
    clear hr
    obtain ⟨xi, xq, b, xn, hq, hnb⟩ := x
    simp only
    have hqW : W.heap[xq]? = some (mapObj sk (kvB xn b)) := (hB.block _ (block_lt hq)).trans hq
    have hnd : ((kvB xn b).map (·.1)).Nodup := by rw [kvB_keys]; exact hnb
    have hlook := run_look (P := Tryz.prog) (T := 125) (K := 9) (E := 164) (by kernel_rfl) (by kernel_rfl) key_str hqW hnd (z := .agg #[.int .i64 0, .bool false]) (by kernel_rfl) s true
    rw [kvB_look] at hlook
    have p0 : W.cell? ⟨w.heap.size, 0, none⟩ = some (sk s) := cell_block k1 rfl
    have a0 : ∀ o, (W.alloc o).cell? ⟨w.heap.size + 1, 0, none⟩ = some (.int .i64 0) := fun o => cell_block (block_alloc o k2) rfl
    have a1 : ∀ o, (W.alloc o).cell? ⟨w.heap.size + 1, 1, none⟩ = some (.bool false) := fun o => cell_block (block_alloc o k2) rfl
    have a2 : ∀ o, (W.alloc o).cell? ⟨w.heap.size + 1 + 1, 0, none⟩ = some (.bool false) := fun o => cell_block (block_alloc o k3) rfl
    have e0 : ∀ o, (W.alloc o).frozen? ⟨w.heap.size + 1, 0, none⟩ = false := fun o => frozen_block (block_alloc o k2)
    have e1 : ∀ o, (W.alloc o).frozen? ⟨w.heap.size + 1, 1, none⟩ = false := fun o => frozen_block (block_alloc o k2)
    have e2 : ∀ o, (W.alloc o).frozen? ⟨w.heap.size + 1 + 1, 0, none⟩ = false := fun o => frozen_block (block_alloc o k3)
    rename_i Kd ad
    clear ad Kd
    have hB' : ∀ o, Below w.heap.size w (W.alloc o) := fun o => hB.alloc (by omega) o
    cases hf : b.findIdx? (fun x => x.nm == s) with
    | none =>
      rw [hf] at hlook
      simp only [Option.map_none, Option.getD_none, Option.isSome_none, if_true] at hlook
      clear a0 a1 a2 e0 e1 e2
      gi_wp2
      have hbW := ext_alloc (Below.refl W.heap.size W) (.cells #[.int .i64 0, .bool false] 164)
      exact ⟨keepsFrom_of_below hbW, kept_of_below hbW (by omega) (by omega), ⟨fun p hm => (List.mem_append.1 hm).elim (hp p) (fun e' => by simp at e'; subst e'; exact hf), Nat.le_trans hz hbW.size, block_alloc _ k1, block_alloc _ k2, block_alloc _ k3⟩, hB' _⟩
    | some i =>
      rw [hf] at hlook
      simp only [Option.map_some, Option.getD_some, Option.isSome_some, if_true] at hlook
      obtain ⟨fx, hfx⟩ : ∃ fx, (b[i]?.map Lc.fx).getD false = fx := ⟨_, rfl⟩
      rw [hfx] at hlook
      gi_wp2
      refine ⟨⟨by simp, fun k o hk ho _ => ?_⟩, ⟨rfl, (xn + i, fx), ⟨pre, _, i, rfl, hp, hf, by rw [hfx]⟩, ?_, ?_⟩, ?_⟩
      · exact (set1_other _ _ (by omega)).trans ((set1_other _ _ (by omega)).trans ((set1_other _ _ (by omega)).trans (block_alloc _ ho)))
      · exact (set1_other _ _ (by omega)).trans (set_block (i := 1) _ (set_block (i := 0) _ (block_alloc _ k2)))
      · exact set_block (i := 0) _ ((set1_other _ _ (by omega)).trans ((set1_other _ _ (by omega)).trans (block_alloc _ k3)))
      · exact (((hB' _).setCell (p := ⟨w.heap.size + 1, 0, none⟩) (by simp) _).setCell (p := ⟨w.heap.size + 1, 1, none⟩) (by simp) _).setCell (p := ⟨w.heap.size + 1 + 1, 0, none⟩) (by simp; omega) _
  case done =>
    rintro D ys W hD rfl ⟨⟨hp, hz, k1, k2, k3⟩, hB⟩ hK
    have a0 : W.cell? ⟨w.heap.size + 1, 0, none⟩ = some (.int .i64 0) := cell_block k2 rfl
    have a1 : W.cell? ⟨w.heap.size + 1, 1, none⟩ = some (.bool false) := cell_block k2 rfl
    have a2 : W.cell? ⟨w.heap.size + 1 + 1, 0, none⟩ = some (.bool false) := cell_block k3 rfl
    have e0 : W.frozen? ⟨w.heap.size + 1, 0, none⟩ = false := frozen_block k2
    have e1 : W.frozen? ⟨w.heap.size + 1, 1, none⟩ = false := frozen_block k2
    have e2 : W.frozen? ⟨w.heap.size + 1 + 1, 0, none⟩ = false := frozen_block k3
    gi_wp2
    have hDn : ∀ (a b c : Value), (((W.setCell ⟨w.heap.size + 1, 0, none⟩ a).setCell ⟨w.heap.size + 1, 1, none⟩ b).setCell ⟨w.heap.size + 1 + 1, 0, none⟩ c).heap[D]? = some (.deferred (some [])) := fun a b c => (set1_other _ _ (by omega)).trans ((set1_other _ _ (by omega)).trans ((set1_other _ _ (by omega)).trans hK))
    have hBn : ∀ (a b c : Value), Below w.heap.size w (((W.setCell ⟨w.heap.size + 1, 0, none⟩ a).setCell ⟨w.heap.size + 1, 1, none⟩ b).setCell ⟨w.heap.size + 1 + 1, 0, none⟩ c) := fun a b c => ((hB.setCell (p := ⟨w.heap.size + 1, 0, none⟩) (by simp) _).setCell (p := ⟨w.heap.size + 1, 1, none⟩) (by simp) _).setCell (p := ⟨w.heap.size + 1 + 1, 0, none⟩) (by simp; omega) _
    refine ⟨by simp, .inl ⟨_, _, rfl, run_takeDeferred (hDn _ _ _), ?_⟩⟩
    refine ⟨_, res122 (i := 0) (fx := false) (ok := false) rfl rfl (block_put ((set1_other _ _ (by omega)).trans (set_block (i := 1) _ (set_block (i := 0) _ k2))) (by omega)) (block_put (set_block (i := 0) _ ((set1_other _ _ (by omega)).trans ((set1_other _ _ (by omega)).trans k3))) (by omega)), ?_, (hBn _ _ _).trans (belowK_b (w := w) (Nat.le_refl _) _ D _ _ (by omega) (hDn _ _ _) rfl rfl)⟩
    have hfl := findL_all (s := s) (bl := bl) (fun b hb => by rw [← hz2] at hb; obtain ⟨p, hp', rfl⟩ := List.mem_map.1 hb; exact hp p hp')
    rw [findV, hfl]
  case stop =>
    rintro D c pre W hD hpre ⟨⟨rfl, y, ⟨ini, x, i, rfl, hi, hx, rfl⟩, k2, k3⟩, hB⟩ hK
    gi_wp2
    refine ⟨by simp, .inl ⟨_, _, rfl, run_takeDeferred hK, ?_⟩⟩
    refine ⟨_, res122 rfl rfl (block_put k2 (by omega)) (block_put k3 (by omega)), ?_, hB.trans (belowK_b (w := w) (Nat.le_refl _) _ D _ _ (by omega) hK rfl rfl)⟩
    have hbl : bl = ini.map It.b ++ x.b :: bl.drop (ini.length + 1) := by
      obtain ⟨rr, hr⟩ := hpre
      have e : bl = ini.map It.b ++ x.b :: rr.map It.b := by rw [← hz2, ← hr]; simp
      have e2 : bl.drop (ini.length + 1) = rr.map It.b := by
        rw [e, List.drop_append]
        simp
      rw [e2]
      exact e
    have hn : x.n = sumL (bl.drop (ini.length + 1)) := hz3 ini.length x (by
      obtain ⟨rr, hr⟩ := hpre
      rw [← hr]
      simp)
    have hfl := findL_at (s := s) (r := bl.drop (ini.length + 1)) (pre := ini.map It.b) (fun c hc => by obtain ⟨p, hp, rfl⟩ := List.mem_map.1 hc; exact hi p hp) hx
    rw [← hbl, ← hn] at hfl
    rw [findV, hfl]
theorem find_any (w0 : World) (B : Nat) (u : Nd) (ub : Option Addr) (uc fm : Nat) (O : Nat → Prop) (sl : List Int) (bl : List (List Lc)) (lv : Nat) (s : List UInt8) (w : World) (h : Ck w0 B u ub uc fm O sl bl lv w) (hNB : NB bl) (hlen : bl.length ≤ 100000) :
    Calls Tryz.prog 122 #[.pointer (some ⟨B, 0, none⟩), sk s] w fun e w' => e = .returned (findV s bl) ∧ Below w.heap.size w w' := callsIn_wide.1 (find_in 3 (by omega) w0 B u ub uc fm O sl bl lv s w h hNB hlen)
end Go.Proofs.YtnnppenlfocgiaaGreatDoor
namespace Go.Proofs.YtnnppenlfocgiaaGreatDoor
open Go.RowKit
open Go

/-- What a method of the checker's leaves. -/
def CQ (w0 : World) (B : Nat) (u : Nd) (ub : Option Addr) (uc fm : Nat) (O : Nat → Prop) (W : World) (R : CR) (e : Ending) (W' : World) : Prop :=
  (∃ c', R = .ok c' ∧ e = .returned (.tuple #[]) ∧ ∃ O', Ck w0 B u ub uc fm O' c'.sl c'.bl (sumL c'.bl) W' ∧ CK O W O' W') ∨ (∃ cd a, R = .error (cd, a) ∧ e = .panicked (pan (flt cd a)) ∧ Below w0.heap.size w0 W')
theorem findIdx_any (b : List Lc) (s : List UInt8) : b.any (fun x => x.nm == s) = (b.findIdx? (fun x => x.nm == s)).isSome := by
  induction b with
  | nil => rfl
  | cons x l ih =>
    rw [List.any_cons, List.findIdx?_cons]
    cases hx : (x.nm == s) with
    | true => simp
    | false =>
      rw [Bool.false_or, ih]
      simp only [Bool.false_eq_true, if_false]
      cases l.findIdx? (fun x => x.nm == s) <;> rfl
theorem kvB_none {n : Nat} {b : List Lc} {s : List UInt8} (h : b.any (fun x => x.nm == s) = false) : (kvB n b).lookup s = none := by
  rw [kvB_look]
  rw [findIdx_any] at h
  cases hf : b.findIdx? (fun x => x.nm == s) with
  | none => rfl
  | some i => rw [hf] at h; cases h
set_option maxRecDepth 20000 in
set_option maxHeartbeats 4000000 in
theorem declare_any (w0 : World) (B : Nat) (u : Nd) (ub : Option Addr) (uc fm : Nat) (O : Nat → Prop) (sl : List Int) (b : List Lc) (r : List (List Lc)) (lv : Nat) (s : List UInt8) (fx : Bool) (a : Nat) (W : World) (h : Ck w0 B u ub uc fm O sl (b :: r) lv W) (hlv : lv = sumL (b :: r)) (hl30 : lv ≤ 30) (hr : r.length ≤ 100000) (ha : a < sl.length) (hnd : (b.map Lc.nm).Nodup) :
    Calls Tryz.prog 101 #[.pointer (some ⟨B, 0, none⟩), sk s, .bool fx, .int .i64 (a : Nat)] W (CQ w0 B u ub uc fm O W (declareC s fx a ⟨sl, b :: r⟩)) := by
  have hbd : Below W.heap.size W W.drew := (Below.refl _ _).drew
  have hCK := CK.below (O := O) hbd
  replace h := h.on hbd
  obtain ⟨gb, bc, q, c6, f6, hcap, hgB, hc, hqB, hqg, hOq, hq, _, _⟩ := h.top
  have c6' : W.cell? ⟨B, 6, none⟩ = some (.slice (some ⟨gb, 0, none⟩) (r.length + 1) bc) := c6
  have hc' : W.cell? ⟨gb, r.length, none⟩ = some (mp q) := hc
  obtain ⟨n, hn⟩ : ∃ n, r.length = n := ⟨_, rfl⟩
  obtain ⟨N1, hN1⟩ : ∃ N1, n + 1 = N1 := ⟨_, rfl⟩
  rw [hn] at c6 c6' hc hc' hr hcap
  rw [hN1] at c6 c6' hcap
  have hw : IntKind.i64.wrap ((N1 : Int) - 1) = (n : Int) := by rw [IntKind.wrap_i64]; omega
  have hn0 : (0 : Int) ≤ (n : Int) := by omega
  have hn2 : (n : Int) < (N1 : Int) := by omega
  have hkn : ((kvB (sumL r) b).map (·.1)).Nodup := by rw [kvB_keys]; exact hnd
  have hlook := run_look (P := Tryz.prog) (T := 125) (K := 9) (E := 164) (by kernel_rfl) (by kernel_rfl) key_str hq hkn (z := .agg #[.int .i64 0, .bool false]) (by kernel_rfl) s true
  cases hany : b.any (fun x => x.nm == s) with
  | true =>
    rw [kvB_look] at hlook
    rw [findIdx_any] at hany
    obtain ⟨i, hi⟩ := Option.isSome_iff_exists.1 hany
    rw [hi] at hlook
    simp only [Option.map_some, Option.getD_some, Option.isSome_some, if_true] at hlook
    obtain ⟨lc, hlc⟩ : ∃ lc : Nat × Bool, (sumL r + i, (b[i]?.map Lc.fx).getD false) = lc := ⟨_, rfl⟩
    have hlook' : (Instr.lookup 125 (.map (some q)) (sk s) true).run Tryz.prog W.drew = .ok (.tuple #[.agg #[.int .i64 (lc.1 : Nat), .bool lc.2], .bool true]) W.drew := by rw [← hlc]; exact hlook
    have hR : declareC s fx a ⟨sl, b :: r⟩ = .error (5, a) := by rw [← findIdx_any] at hany; simp [declareC, hany]
    rw [hR]
    have fin : Hid (∀ o, Below w0.heap.size w0 (W.drew.alloc o)) := fun o => ext_trans h.bl (ext_alloc (Below.refl _ _) o)
    clear hlook hlc hR hany hi
    go_enter Tryz.func101, Tryz.ntmps101
    go_wp2
    go_region_held3 (fun w' => w'.cell? ⟨B, 6, none⟩ = some (.slice (some ⟨gb, 0, none⟩) N1 bc) ∧ w'.cell? ⟨gb, n, none⟩ = some (mp q)) (go_keep) (fail)
    go_wp2_with (go_at_call 44; refine (refuse_yes _ _ _ _).mono ?_; rintro e w1 ⟨rfl, rfl⟩)
    exact ⟨rfl, .inr ⟨5, a, rfl, rfl, fin.out _⟩⟩
  | false =>
    rw [kvB_none hany] at hlook
    simp only [Option.getD_none, Option.isSome_none, if_true] at hlook
    have hlook' : (Instr.lookup 125 (.map (some q)) (sk s) true).run Tryz.prog W.drew = .ok (.tuple #[.agg #[.int .i64 0, .bool false], .bool false]) W.drew := hlook
    by_cases h30 : 30 ≤ lv
    · have hR : declareC s fx a ⟨sl, b :: r⟩ = .error (1, a) := by
        have e : (⟨sl, b :: r⟩ : Cs).live = lv := hlv.symm
        simp only [declareC, hany, e]
        simp [h30]
      rw [hR]
      have fin : Hid (∀ o, Below w0.heap.size w0 (W.drew.alloc o)) := fun o => ext_trans h.bl (ext_alloc (Below.refl _ _) o)
      have c7 : ∀ o, (W.alloc o).cell? ⟨B, 7, none⟩ = some (.int .i64 (lv : Nat)) := fun o => (World.cell?_alloc_past _ _ _ h.lt).trans h.cells.2.2.1
      have h30' : (30 : Int) ≤ (lv : Int) := by omega
      clear hlook hR hany
      go_enter Tryz.func101, Tryz.ntmps101
      go_wp2
      go_region_held3 (fun w' => w'.cell? ⟨B, 6, none⟩ = some (.slice (some ⟨gb, 0, none⟩) N1 bc) ∧ w'.cell? ⟨gb, n, none⟩ = some (mp q)) (go_keep) (fail)
      go_wp2_with (go_at_call 44; refine (refuse_any _ _ _ a _).mono ?_; rintro e w1 ⟨rfl, (⟨hw, rfl⟩ | ⟨hw, rfl⟩)⟩; (first | (exact absurd hw (by decide)) | (exact ⟨rfl, .inr ⟨1, a, rfl, rfl, fin.out _⟩⟩)))
      simp at hw
      omega
    · have h30' : ¬ (30 : Int) ≤ (lv : Int) := by omega
      have hR : declareC s fx a ⟨sl, b :: r⟩ = .ok ⟨sl.set a lv, (b ++ [⟨s, fx⟩]) :: r⟩ := by
        have e : (⟨sl, b :: r⟩ : Cs).live = lv := hlv.symm
        simp only [declareC, hany, e]
        simp [h30]
      rw [hR]
      have hbV := ext_alloc (Below.refl W.drew.heap.size W.drew) (.cells #[.int .i64 0, .bool false] 164)
      have hCKV := hCK.trans (CK.below hbV)
      have hV := h.on hbV
      have c7 : ∀ o, (W.alloc o).cell? ⟨B, 7, none⟩ = some (.int .i64 (lv : Nat)) := fun o => (World.cell?_alloc_past _ _ _ h.lt).trans h.cells.2.2.1
      obtain ⟨gb2, bc2, q2, c62, _, _, _, hc2, _, _, _, hq2, _, hput2⟩ := hV.top
      have hqq : q2 = q := by
        have e1 := (hbV.cell (p := ⟨B, 6, none⟩) h.lt).symm.trans c62
        rw [c6] at e1
        simp only [Option.some.injEq, Value.slice.injEq, Addr.mk.injEq] at e1
        obtain ⟨⟨rfl, _, _⟩, _, _⟩ := e1
        have e2 := (hbV.cell (p := ⟨gb, n, none⟩) (World.block_lt_of_cell? _ _ hc)).symm.trans (hn ▸ hc2)
        rw [hc] at e2
        simpa using e2.symm
      subst hqq
      obtain ⟨hP, hPK⟩ := hput2 ⟨s, fx⟩
      have hput := run_put (P := Tryz.prog) (T := 125) (K := 9) (E := 164) (by kernel_rfl) (by kernel_rfl) key_str hq2 hkn s (kvB_none hany) (lcv (sumL (b :: r)) fx)
      obtain ⟨V2, hV2⟩ : ∃ V2 : World, { W.drew.alloc (.cells #[.int .i64 0, .bool false] 164) with heap := (W.drew.alloc (.cells #[.int .i64 0, .bool false] 164)).heap.setIfInBounds q2 (mapObj sk (kvB (sumL r) b ++ [(s, lcv (sumL (b :: r)) fx)])) } = V2 := ⟨_, rfl⟩
      rw [hV2] at hput
      simp only at hP hPK
      rw [hV2] at hP hPK
      rw [← hlv] at hput
      have hsum : sumL ((b ++ [⟨s, fx⟩]) :: r) = lv + 1 := by rw [hlv, sumL_cons, sumL_cons]; simp; omega
      have hCK2 := hCKV.trans hPK
      have hbd2 : Below V2.heap.size V2 V2.drew := (Below.refl _ _).drew
      have hP2 := hP.on hbd2
      obtain ⟨g, sc, c5, hgB2, hOg, ⟨xx, cx⟩, fx5, hset⟩ := hP2.slot ha
      obtain ⟨hS, hSK⟩ := hset ((lv : Nat) : Int)
      obtain ⟨hF, hFK⟩ := hS.live (lv + 1)
      have hcells := hP2.cells
      have c7' : V2.cell? ⟨B, 7, none⟩ = some (.int .i64 (lv : Nat)) := hcells.2.2.1
      have f7' : V2.frozen? ⟨B, 7, none⟩ = false := hcells.2.2.2
      have c5' : V2.cell? ⟨B, 5, none⟩ = some (.slice (some ⟨g, 0, none⟩) sl.length sc) := c5
      have cx' : V2.cell? ⟨g, a, none⟩ = some (.int .i64 xx) := cx
      have fx' : V2.frozen? ⟨g, a, none⟩ = false := fx5
      have ha0 : (0 : Int) ≤ (a : Int) := by omega
      have ha1 : (a : Int) < (sl.length : Int) := by omega
      have hgB3 : ¬ B = g := Ne.symm hgB2
      have hput' : ∀ (hh : True), (Instr.mapUpdate 125 (.map (some q2)) (sk s) (.agg #[.int .i64 (lv : Nat), .bool fx])).run Tryz.prog (W.alloc (.cells #[.int .i64 0, .bool false] 164)).drew = .ok () V2 := fun _ => hput
      have hput'' := hput' trivial
      have fin : Hid (CQ w0 B u ub uc fm O W (.ok ⟨sl.set a lv, (b ++ [⟨s, fx⟩]) :: r⟩) (.returned (.tuple #[])) ((V2.drew.setCell ⟨g, a, none⟩ (iv ((lv : Nat) : Int))).setCell ⟨B, 7, none⟩ (.int .i64 ((lv + 1 : Nat) : Int)))) := .inl ⟨_, rfl, rfl, O, by rw [hsum]; exact hF, hCK2.trans ((CK.below hbd2).trans (hSK.trans hFK))⟩
      clear hlv hsum hlook hR hany hput hput' hV2 hP hPK hF hFK hS hSK hset hP2 hV hput2 c62 hc2 hq2 hq
      go_enter Tryz.func101, Tryz.ntmps101
      go_wp2
      go_region_held3 (fun w' => w'.cell? ⟨B, 6, none⟩ = some (.slice (some ⟨gb, 0, none⟩) N1 bc) ∧ w'.cell? ⟨gb, n, none⟩ = some (mp q2)) (go_keep) (fail)
      go_wp2_with (go_at_call 44; refine (refuse_any _ _ _ a _).mono ?_; rintro e w1 ⟨rfl, (⟨hw, rfl⟩ | ⟨hw, rfl⟩)⟩; (first | (exact absurd hw (by decide)) | (exfalso; simp at hw; omega)))
      go_region_held3 (fun w' => w'.cell? ⟨B, 5, none⟩ = some (.slice (some ⟨g, 0, none⟩) sl.length sc) ∧ w'.cell? ⟨B, 7, none⟩ = some (.int .i64 (lv : Nat))) (go_keep) (fail)
      go_wp2
      go_end0
      exact fin.out
end Go.Proofs.YtnnppenlfocgiaaGreatDoor
