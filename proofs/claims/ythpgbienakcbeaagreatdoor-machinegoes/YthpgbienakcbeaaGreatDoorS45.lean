/- A machine is made out of a state. -/
import Derived.Test.YthpgbienakcbeaaGreatDoorS39
import Derived.Test.YthpgbienakcbeaaGreatDoorS33
namespace Go.Proofs.YthpgbienakcbeaaGreatDoor
open Go.RowKit Go
set_option maxRecDepth 100000
set_option maxHeartbeats 8000000
set_option linter.all false
variable {W W' V w3 w u u' : World} {O : List Nat} {xs : List Vl} {s s' : St} {tm : Array Value} {v : Value} {l : List Fw} {j g sz n cap nt c base m B : Nat} {q : Fw} {mn : Int} {x : Vl}
section
variable [DecidableEq Vl]
theorem Rw.onTo {C : World} {O' : List Nat} {sv : Value} (h : Rw W O sv xs) (hb : Below W.heap.size W C) (hO : ∀ k, k < W.heap.size → k ∉ O → k ∉ O') : Rw C O' sv xs := by
 obtain ⟨a, cap, e, hl, hx⟩ := h
 refine ⟨a, cap, e, hl, fun hne => ?_⟩
 obtain ⟨b, off, ea, h1, h2, hc⟩ := hx hne
 refine ⟨b, off, ea, hO b h2 h1, Nat.lt_of_lt_of_le h2 hb.size, fun j x hj => ?_⟩
 obtain ⟨t0, t1, t2⟩ := hc j x hj
 exact ⟨(hb.cell (p := ⟨b, _, none⟩) h2).trans t0, (hb.cell (p := ⟨b, _, none⟩) h2).trans t1, (hb.cell (p := ⟨b, _, none⟩) h2).trans t2⟩
theorem FS.mc {W0 : World} {F fc T tc U uc lo : Nat} {fw : List Fw} {tw : List Tw} (h : FS lo W F fc T tc U uc fw tw s) (hlo : W0.heap.size ≤ lo) (hb : Below W0.heap.size W0 W) (fv : Value) (mn : Int) :
  Mc W0 ⟨W.heap.size, F, fc, T, tc, U, uc, fw, tw, []⟩ fv mn s (W.alloc (mcb fv mn ⟨W.heap.size, F, fc, T, tc, U, uc, fw, tw, []⟩ s.fr.length s.tb.length s.out.length s.st s.en s.er s.la.k s.la.n s.la.s)) := by
 have hB := a0c (Below.refl W.heap.size W) (mcb fv mn ⟨W.heap.size, F, fc, T, tc, U, uc, fw, tw, []⟩ s.fr.length s.tb.length s.out.length s.st s.en s.er s.la.k s.la.n s.la.s)
 have hlt : ∀ k ∈ F :: T :: U :: fw.map Fw.g, k < W.heap.size := fun k hk => by
  rcases List.mem_cons.1 hk with rfl | hk
  ·exact h.fo.lt
  rcases List.mem_cons.1 hk with rfl | hk
  ·exact h.to.lt
  rcases List.mem_cons.1 hk with rfl | hk
  ·exact h.uo.lt
  obtain ⟨q, hq, rfl⟩ := List.mem_map.1 hk
  exact (h.rg q hq).lt
 have hno : ∀ k, k < W.heap.size → k ∉ (F :: T :: U :: fw.map Fw.g) ++ [] → k ∉ (W.heap.size :: F :: T :: U :: fw.map Fw.g) ++ [] := fun k h1 h2 h3 => by
  rw [List.append_nil] at h2 h3
  rcases List.mem_cons.1 h3 with rfl | h3
  ·omega
  exact h2 h3
 refine ⟨a0h _ _, h.fo.same (hB.block _ h.fo.lt), h.to.same (hB.block _ h.to.lt), h.uo.same (hB.block _ h.uo.lt), fun q hq => (h.rg q hq).same (hB.block _ (h.rg q hq).lt), h.hf, h.ht, fun q hq => ⟨(h.tr [] (by simp) q hq).1.onTo hB hno, (h.tr [] (by simp) q hq).2.onTo hB hno⟩, fun k hk => (by cases hk), ?_, fun k hk => ?_, a0c hb _⟩
 ·exact List.nodup_cons.2 ⟨fun hk => Nat.lt_irrefl _ (hlt _ hk), h.nd⟩
 ·rcases List.mem_cons.1 hk with rfl | hk
  ·exact hb.size
  ·exact Nat.le_trans hlo (h.lo k hk)
theorem d4w (h : tm[4]?.getD undef = v) : (results Tryz.f30 tm).run Tryz.prog W = .ok v W := by
 simp [results, Tryz.results30, go_sem, h]
theorem d0i (cv fv tv ov : Value) (ca : Option Addr) (cn cc : Nat) (hcv : cv = .slice ca cn cc) (mn : Int) (s : St) (W : World) (hI : StIn W.heap.size W fv tv ov s) (hS : Small s) :
  Calls Tryz.prog 30 #[.agg #[cv, .int .i64 mn], stv fv tv ov s] W fun e W' => ∃ p, e = .returned (.pointer (some ⟨p.B, 0, none⟩)) ∧ p.ap = [] ∧ Mc W p cv mn s W' := by
 obtain ⟨w1, hw1⟩ := exq ((W.alloc (.cells #[cv, .int .i64 mn] 24)).alloc (stb fv tv ov s))
 have E0 : Below W.heap.size W w1 := by rw [← hw1]; exact a0c (a0c (Below.refl W.heap.size W) _) _
 have g0 : w1.heap[W.heap.size]? = some (.cells #[cv, .int .i64 mn] 24) := by rw [← hw1]; exact a0g _ (a0h _ _)
 have g1 : w1.heap[W.heap.size + 1]? = some (stb fv tv ov s) := by rw [← hw1]; exact a6w W _ _
 have hf : ∀ w2, Below W.heap.size W w2 → Calls Tryz.prog 50 #[stv fv tv ov s] w2 _ := fun w2 hb => b3e fv tv ov s w2 (hI.at hb) hS
 obtain ⟨fa, fp, hfv, _⟩ := hI.f
 obtain ⟨ta, tp, htv, _⟩ := hI.t
 obtain ⟨oa, op, hov, _⟩ := hI.o
 clear hI hS
 subst hfv
 subst htv
 subst hov
 subst hcv
 obtain ⟨nf, hnf⟩ := exq (s.fr.length)
 obtain ⟨nt, hnt⟩ := exq (s.tb.length)
 obtain ⟨no, hno⟩ := exq (s.out.length)
 rw [hnf, hnt, hno] at hf hw1 g1 ⊢
 replace hf : Hid _ := hf
 have a0 := a0a (i := 0) g0 rfl
 have a1 := a0a (i := 1) g0 rfl
 obtain ⟨b0, b1, b2, b3, b4, b5, b6, b7, b8⟩ := nine g1
 have hS : ∀ u, Below w1.heap.size w1 u → u.cell? ⟨W.heap.size, 0, none⟩ = some (.slice ca cn cc) ∧ u.cell? ⟨W.heap.size, 1, none⟩ = some (.int .i64 mn) := fun u hb => ⟨a0l hb a0, a0l hb a1⟩
 replace hS : Hid _ := hS
 go_enter Tryz.func30, Tryz.ntmps30
 go_wp2
 go_region_with (first | (go_at_call 50; refine (hf.out _ (a0i E0)).mono ?_; rintro e w2 ⟨F, fc, T, tc, U, uc, fw, tw, rfl, hFS, hb2⟩; have N2 := a0b (a0i (Below.refl w1.heap.size w1)) hb2; obtain ⟨_, _⟩ := hS.out w2 N2))
 all_goals
  go_wp2
  have hM := hFS.mc (W0 := W) (a0i E0).size (a0b E0 N2) (.slice ca cn cc) mn
  rw [hnf, hnt, hno] at hM
  exact bodyPost_ret (d4w (v := .pointer (some ⟨w2.heap.size, 0, none⟩)) rfl) rfl ⟨_, rfl, rfl, hM⟩
theorem a8n (hj : l[j]? = some q) : (a0p l)[j * 4]? = some (.int .i64 q.x.f) ∧ (a0p l)[j * 4 + 1]? = some (.int .i64 q.x.pc) ∧ (a0p l)[j * 4 + 2]? = some (.int .i64 q.x.d) ∧ (a0p l)[j * 4 + 3]? = some (.slice (some ⟨q.g, 0, none⟩) q.x.rs.length q.c) := by
 induction l generalizing j with
 | nil => simp at hj
 | cons x xs ih =>
  have e : a0p (x :: xs) = .int .i64 x.x.f :: .int .i64 x.x.pc :: .int .i64 x.x.d :: .slice (some ⟨x.g, 0, none⟩) x.x.rs.length x.c :: a0p xs := by simp [a0p]
  rw [e]
  cases j with
  | zero => simp at hj; subst hj; simp
  | succ j =>
   rw [show (j + 1) * 4 = j * 4 + 1 + 1 + 1 + 1 by omega]
   simp only [List.getElem?_cons_succ] at hj ⊢
   exact ih hj
theorem a8o {l : List Tw} {q : Tw} (hj : l[j]? = some q) : (a0m l)[j * 2]? = some q.a ∧ (a0m l)[j * 2 + 1]? = some q.b := by
 induction l generalizing j with
 | nil => simp at hj
 | cons x xs ih =>
  have e : a0m (x :: xs) = x.a :: x.b :: a0m xs := by simp [a0m]
  rw [e]
  cases j with
  | zero => simp at hj; subst hj; simp
  | succ j =>
   rw [show (j + 1) * 2 = j * 2 + 1 + 1 by omega]
   simp only [List.getElem?_cons_succ] at hj ⊢
   exact ih hj
theorem OwnR.max {e : TypeId} {xs : List Value} (h : OwnR W g e sz n cap xs) : n ≤ maxLen := by
 obtain ⟨_, _, _, h1, h2, _⟩ := h
 omega
theorem OwnR.row (hO : OwnR W g 30 3 xs.length cap (flat xs)) : Row W.heap.size W (.slice (some ⟨g, 0, none⟩) xs.length cap) xs := by
 refine ⟨some ⟨g, 0, none⟩, cap, rfl, hO.max, fun _ => ⟨g, 0, rfl, hO.lt, fun j x hx => ?_⟩⟩
 obtain ⟨e0, e1, e2⟩ := a2k hx
 rw [Nat.zero_add]
 exact ⟨(hO.cell e0).1, (hO.cell e1).1, (hO.cell e2).1⟩
abbrev mfv (p : Mp) (s : St) : Value := .slice (some ⟨p.F, 0, none⟩) s.fr.length p.fc
abbrev mtv (p : Mp) (s : St) : Value := .slice (some ⟨p.T, 0, none⟩) s.tb.length p.tc
abbrev muv (p : Mp) (s : St) : Value := .slice (some ⟨p.U, 0, none⟩) s.out.length p.uc
theorem Mc.stin {w0 : World} {p : Mp} {fv : Value} (h : Mc w0 p fv mn s W) : StIn W.heap.size W (mfv p s) (mtv p s) (muv p s) s := by
 refine ⟨⟨_, _, rfl, h.fo.max, fun _ => ⟨p.F, 0, rfl, h.fo.lt, fun j x hx => ?_⟩⟩, ⟨_, _, rfl, h.to.max, fun _ => ⟨p.T, 0, rfl, h.to.lt, fun j x hx => ?_⟩⟩, ⟨_, _, rfl, h.uo.max, fun _ => ⟨p.U, 0, rfl, h.uo.lt, fun j x hx => ?_⟩⟩⟩
 ·rw [← h.hf, List.getElem?_map] at hx
  obtain ⟨q, hq, rfl⟩ := Option.map_eq_some_iff.1 hx
  obtain ⟨e0, e1, e2, e3⟩ := a8n hq
  rw [Nat.zero_add]
  exact ⟨(h.fo.cell e0).1, (h.fo.cell e1).1, (h.fo.cell e2).1, _, (h.fo.cell e3).1, (h.rg q (List.mem_of_getElem? hq)).row⟩
 ·rw [← h.ht, List.getElem?_map] at hx
  obtain ⟨q, hq, rfl⟩ := Option.map_eq_some_iff.1 hx
  obtain ⟨e0, e1⟩ := a8o hq
  rw [Nat.zero_add]
  have ht := h.tr q (List.mem_of_getElem? hq)
  exact ⟨_, _, (h.to.cell e0).1, (h.to.cell e1).1, ht.1.row, ht.2.row⟩
 ·rw [Nat.zero_add]
  exact (h.uo.cell (by rw [List.getElem?_map, hx]; rfl)).1
theorem VG.small {nf : Nat} {v : Vl} (h : VG nt nf v) : v.s.size ≤ 300 := by
 have hm := h.m
 unfold mayB at hm
 split at hm
 ·simp at hm
  omega
 ·split at hm
  ·cases hm
  ·rename_i h2
   have he : v.s.toList = [] := by
    cases hl : v.s.toList with
    | nil => rfl
    | cons x xs => rw [hl] at h2; exact absurd rfl h2
   rw [show v.s = ⟨#[]⟩ from a3w (by rw [he, ByteArray.toList_eq])]
   decide
theorem Good.small {fs : List Fd} (h : Good fs s) (hr : ∀ f ∈ fs, f.r ≤ 1000) : Small s := by
 refine ⟨h.n2, fun x hx => ?_, fun x hx v hv => ?_, h.t2, fun x hx => ?_, fun x hx => ⟨fun v hv => ((h.tg x hx).k v hv).small, fun v hv => ((h.tg x hx).v v hv).small⟩, ?_, h.o2, ?_⟩
 ·obtain ⟨f, h1, _, _, _, h5, _⟩ := h.fg x hx
  have := hr f (List.mem_of_getElem? h1)
  omega
 ·obtain ⟨f, _, _, _, _, _, h6⟩ := h.fg x hx
  exact (h6 v hv).small
 ·have := a2z (h.tg x hx).m
  omega
 ·have h1 := h.o1
  have h2 := h.s2
  omega
 ·rcases h.e with ⟨_, _, e⟩ | ⟨_, _, e⟩ | ⟨_, _, e⟩
  ·rw [e]; decide
  ·exact e.small
  ·rw [e]; decide
abbrev dcb (p : Mp) (nf nt nu : Nat) (st en er k n : Int) (t : ByteArray) : Obj :=
 .cells #[.slice (some ⟨p.F, 0, none⟩) nf p.fc, .slice (some ⟨p.T, 0, none⟩) nt p.tc, .slice (some ⟨p.U, 0, none⟩) nu p.uc, .int .i64 st, .int .i64 en, .int .i64 er, .int .i64 k, .int .i64 n, .string t] 32
structure Dc (w0 : World) (p : Mp) (s : St) (W : World) : Prop where
 box : W.heap[p.B]? = some (dcb p s.fr.length s.tb.length s.out.length s.st s.en s.er s.la.k s.la.n s.la.s)
 fo : OwnR W p.F 50 4 s.fr.length p.fc (a0p p.fw)
 to : OwnR W p.T 57 2 s.tb.length p.tc (a0m p.tw)
 uo : OwnR W p.U 9 1 s.out.length p.uc (s.out.map Value.string)
 rg : ∀ q ∈ p.fw, OwnR W q.g 30 3 q.x.rs.length q.c (flat q.x.rs)
 hf : p.fw.map Fw.x = s.fr
 ht : p.tw.map Tw.t = s.tb
 tr : ∀ q ∈ p.tw, Rw W (p.own ++ p.ap) q.a q.t.ks ∧ Rw W (p.own ++ p.ap) q.b q.t.vs
 al : ∀ k ∈ p.ap, k < W.heap.size ∧ k ∉ p.own
 nd : p.own.Nodup
 lo : ∀ k ∈ p.own, w0.heap.size ≤ k
 bl : Below w0.heap.size w0 W
section
variable {w0 : World} {p : Mp} {s : St} {W : World}
theorem Dc.lt (h : Dc w0 p s W) : ∀ k ∈ p.own, k < W.heap.size := by
 intro k hk
 simp only [Mp.own, List.mem_cons, List.mem_map] at hk
 rcases hk with rfl | rfl | rfl | rfl | ⟨q, hq, rfl⟩
 ·exact a0n h.box
 ·exact h.fo.lt
 ·exact h.to.lt
 ·exact h.uo.lt
 ·exact (h.rg q hq).lt
theorem Dc.on (h : Dc w0 p s W) (hb : Below W.heap.size W W') : Dc w0 p s W' := by
 have hl := h.lt
 refine ⟨a0d hb h.box, h.fo.same (hb.block _ (hl _ (by simp [Mp.own]))), h.to.same (hb.block _ (hl _ (by simp [Mp.own]))), h.uo.same (hb.block _ (hl _ (by simp [Mp.own]))), fun q hq => (h.rg q hq).same (hb.block _ (h.rg q hq).lt), h.hf, h.ht, fun q hq => ⟨(h.tr q hq).1.keepA (MK.below hb), (h.tr q hq).2.keepA (MK.below hb)⟩, fun k hk => ⟨Nat.lt_of_lt_of_le (h.al k hk).1 hb.size, (h.al k hk).2⟩, h.nd, h.lo, a0b h.bl hb⟩
theorem Dc.more (h : Dc w0 p s W) (hb : Below W.heap.size W W') (h1 : W.heap.size ≤ c) (h2 : c < W'.heap.size) : Dc w0 { p with ap := c :: p.ap } s W' := by
 have h' := h.on hb
 have hw : ∀ {sv : Value} {xs : List Vl}, Rw W (p.own ++ p.ap) sv xs → Rw W' (p.own ++ c :: p.ap) sv xs := fun {sv xs} hr => by
  obtain ⟨a, cap, e, hl, hx⟩ := hr
  refine ⟨a, cap, e, hl, fun hne => ?_⟩
  obtain ⟨b, off, ea, hn, hbl, hc⟩ := hx hne
  refine ⟨b, off, ea, fun h3 => hn ?_, Nat.lt_of_lt_of_le hbl hb.size, fun j x hj => (hc j x hj).below hb hbl⟩
  simp only [List.mem_append, List.mem_cons] at h3 ⊢
  rcases h3 with h3 | h3 | h3
  ·exact .inl h3
  ·omega
  ·exact .inr h3
 refine ⟨h'.box, h'.fo, h'.to, h'.uo, h'.rg, h'.hf, h'.ht, fun q hq => ⟨hw (h.tr q hq).1, hw (h.tr q hq).2⟩, fun k hk => ?_, h'.nd, h'.lo, h'.bl⟩
 rcases List.mem_cons.1 hk with rfl | hk
 ·exact ⟨h2, fun e => by have := h.lt _ e; omega⟩
 ·exact h'.al k hk
theorem Dc.less {A : List Nat} (h : Dc w0 p s W) (e : p.ap = c :: A) : Dc w0 { p with ap := A } s W := by
 have hw : ∀ {sv : Value} {xs : List Vl}, Rw W (p.own ++ p.ap) sv xs → Rw W (p.own ++ A) sv xs := fun {sv xs} hr => by
  obtain ⟨a, cap, e', hl, hx⟩ := hr
  refine ⟨a, cap, e', hl, fun hne => ?_⟩
  obtain ⟨b, off, ea, hn, hbl, hc⟩ := hx hne
  refine ⟨b, off, ea, fun h3 => hn ?_, hbl, hc⟩
  rw [e]
  simp only [List.mem_append, List.mem_cons] at h3 ⊢
  rcases h3 with h3 | h3
  ·exact .inl h3
  ·exact .inr (.inr h3)
 exact ⟨h.box, h.fo, h.to, h.uo, h.rg, h.hf, h.ht, fun q hq => ⟨hw (h.tr q hq).1, hw (h.tr q hq).2⟩, fun k hk => h.al k (by rw [e]; exact List.mem_cons_of_mem _ hk), h.nd, h.lo, h.bl⟩
theorem Dc.wrote (h : Dc w0 p s W) (hc : c ∈ p.ap) (hw0 : w0.heap.size ≤ c) (hk : a1n (· = c) W W') : Dc w0 p s W' := by
 have hn := (h.al c hc).2
 have hs : ∀ b ∈ p.own, W'.heap[b]? = W.heap[b]? := fun b hb => hk.block b (h.lt b hb) (fun e => hn (e ▸ hb))
 have hw : ∀ {sv : Value} {xs : List Vl}, Rw W (p.own ++ p.ap) sv xs → Rw W' (p.own ++ p.ap) sv xs := fun {sv xs} hr => by
  obtain ⟨a, cap, e', hl, hx⟩ := hr
  refine ⟨a, cap, e', hl, fun hne => ?_⟩
  obtain ⟨b, off, ea, hn', hbl, hcc⟩ := hx hne
  have hbc : ¬ b = c := fun e => hn' (by rw [e]; exact List.mem_append_right _ hc)
  refine ⟨b, off, ea, hn', Nat.lt_of_lt_of_le hbl hk.size, fun j x hj => ?_⟩
  obtain ⟨t1, t2, t3⟩ := hcc j x hj
  exact ⟨hk.cell t1 hbc, hk.cell t2 hbc, hk.cell t3 hbc⟩
 refine ⟨(hs _ (by simp [Mp.own])).trans h.box, h.fo.same (hs _ (by simp [Mp.own])), h.to.same (hs _ (by simp [Mp.own])), h.uo.same (hs _ (by simp [Mp.own])), fun q hq => (h.rg q hq).same (hs _ ?_), h.hf, h.ht, fun q hq => ⟨hw (h.tr q hq).1, hw (h.tr q hq).2⟩, fun k hk' => ⟨Nat.lt_of_lt_of_le (h.al k hk').1 hk.size, (h.al k hk').2⟩, h.nd, h.lo, ?_⟩
 ·simp only [Mp.own, List.mem_cons, List.mem_map]
  exact .inr (.inr (.inr (.inr ⟨q, hq, rfl⟩)))
 ·exact ⟨hk.os.trans h.bl.os, hk.tape.trans h.bl.tape, hk.output.trans h.bl.output, Nat.le_trans h.bl.size hk.size, fun k hk' => (hk.block k (Nat.lt_of_lt_of_le hk' h.bl.size) (fun e => by omega)).trans (h.bl.block k hk')⟩
theorem Dc.re (h : Dc w0 p s W) {p' : Mp} (hap : p'.ap = p.ap) (hk : MK p.own W p'.own W') (nd : b6b p') (box : W'.heap[p'.B]? = some (dcb p' s'.fr.length s'.tb.length s'.out.length s'.st s'.en s'.er s'.la.k s'.la.n s'.la.s)) (fo : OwnR W' p'.F 50 4 s'.fr.length p'.fc (a0p p'.fw)) (to : OwnR W' p'.T 57 2 s'.tb.length p'.tc (a0m p'.tw)) (uo : OwnR W' p'.U 9 1 s'.out.length p'.uc (s'.out.map Value.string)) (rg : ∀ q ∈ p'.fw, OwnR W' q.g 30 3 q.x.rs.length q.c (flat q.x.rs)) (hf : p'.fw.map Fw.x = s'.fr) (ht : p'.tw.map Tw.t = s'.tb) (tr : ∀ q ∈ p'.tw, q ∈ p.tw ∨ (Rw W' (p'.own ++ p.ap) q.a q.t.ks ∧ Rw W' (p'.own ++ p.ap) q.b q.t.vs)) : Dc w0 p' s' W' := by
 refine ⟨box, fo, to, uo, rg, hf, ht, fun q hq => ?_, fun k hk' => ?_, b6c nd, fun k hk' => ?_, b0u h.bl hk.k h.lo⟩
 ·rw [hap]
  rcases tr q hq with h1 | h1
  ·exact ⟨(h.tr q h1).1.keepA hk, (h.tr q h1).2.keepA hk⟩
  ·exact h1
 ·rw [hap] at hk'
  refine ⟨Nat.lt_of_lt_of_le (h.al k hk').1 hk.k.size, fun e => ?_⟩
  rcases hk.o k e with h1 | h1
  ·exact (h.al k hk').2 h1
  ·have := (h.al k hk').1; omega
 ·rcases hk.o k hk' with h1 | h1
  ·exact h.lo k h1
  ·exact Nat.le_trans h.bl.size h1
theorem Dc.scal (h : Dc w0 p s W) (e1 : s'.fr = s.fr) (e2 : s'.tb = s.tb) (e3 : s'.out = s.out) (hk : MK p.own W p.own W') (hoth : ∀ b, b ≠ p.B → W'.heap[b]? = W.heap[b]?) (box : W'.heap[p.B]? = some (dcb p s.fr.length s.tb.length s.out.length s'.st s'.en s'.er s'.la.k s'.la.n s'.la.s)) : Dc w0 p s' W' := by
 have a := a1f h.nd
 refine h.re rfl hk a (by rw [e1, e2, e3]; exact box) (by rw [e1]; exact h.fo.same (hoth _ a.bf.symm)) (by rw [e2]; exact h.to.same (hoth _ a.bt.symm)) (by rw [e3]; exact h.uo.same (hoth _ a.bu.symm)) (fun q hq => (h.rg q hq).same (hoth _ (a.gb q hq))) (by rw [e1]; exact h.hf) (by rw [e2]; exact h.ht) (fun q hq => .inl hq)
theorem Dc.len (h : Dc w0 p s W) : p.fw.length = s.fr.length ∧ p.tw.length = s.tb.length := by
 rw [← h.hf, ← h.ht]; simp
theorem Dc.top (h : Dc w0 p s W) {ini : List Frm} {x : Frm} (e : s.fr = ini ++ [x]) : ∃ l q, p.fw = l ++ [q] ∧ q.x = x ∧ l.map Fw.x = ini ∧ l.length = ini.length := by
 have hf := h.hf
 rw [e] at hf
 obtain ⟨l, m, h1, h2, h3⟩ := List.map_eq_append_iff.1 hf
 obtain ⟨q, rfl, h4⟩ : ∃ q, m = [q] ∧ q.x = x := by
  cases m with
  | nil => simp at h3
  | cons q m =>
   simp at h3
   exact ⟨q, by rw [h3.2], h3.1⟩
 exact ⟨l, q, h1, h4, h2, by rw [← h2]; simp⟩
theorem Dc.topCells (h : Dc w0 p s W) (e : p.fw = l ++ [q]) :
  W.cell? ⟨p.F, l.length * 4, none⟩ = some (.int .i64 q.x.f) ∧ W.cell? ⟨p.F, l.length * 4 + 1, none⟩ = some (.int .i64 q.x.pc) ∧ W.cell? ⟨p.F, l.length * 4 + 2, none⟩ = some (.int .i64 q.x.d) ∧ W.cell? ⟨p.F, l.length * 4 + 3, none⟩ = some (.slice (some ⟨q.g, 0, none⟩) q.x.rs.length q.c) ∧ W.frozen? ⟨p.F, l.length * 4 + 1, none⟩ = false := by
 have hl := a2q l
 have hx : ∀ j v, q.cells[j]? = some v → (a0p p.fw)[l.length * 4 + j]? = some v := fun j v hv => by
  rw [e, a0u, List.getElem?_append_right (by omega)]
  simp only [a0p, List.flatMap_cons, List.flatMap_nil, List.append_nil]
  rw [show l.length * 4 + j - (l.flatMap Fw.cells).length = j by have : (l.flatMap Fw.cells).length = l.length * 4 := hl; omega]
  exact hv
 exact ⟨(h.fo.cell (hx 0 _ rfl)).1, (h.fo.cell (hx 1 _ rfl)).1, (h.fo.cell (hx 2 _ rfl)).1, (h.fo.cell (hx 3 _ rfl)).1, (h.fo.cell (hx 1 _ rfl)).2⟩
theorem Dc.setPC (h : Dc w0 p s W) (e : p.fw = l ++ [q]) (pc : Int) :
  ∃ p', p'.B = p.B ∧ p'.ap = p.ap ∧ p'.fw = l ++ [{ q with x := { q.x with pc := pc } }] ∧ Dc w0 p' { s with fr := l.map Fw.x ++ [{ q.x with pc := pc }] } (W.setCell ⟨p.F, l.length * 4 + 1, none⟩ (.int .i64 pc)) ∧ MK p.own W p'.own (W.setCell ⟨p.F, l.length * 4 + 1, none⟩ (.int .i64 pc)) := by
 have a := a1f h.nd
 have hlen := h.len.1
 rw [e] at hlen
 simp at hlen
 have hown : ({ p with fw := l ++ [{ q with x := { q.x with pc := pc } }] } : Mp).own = p.own := by simp [Mp.own, e]
 have hk : MK p.own W p.own (W.setCell ⟨p.F, l.length * 4 + 1, none⟩ (.int .i64 pc)) := MK.set a2f
 have hoth : ∀ b, b ≠ p.F → (W.setCell ⟨p.F, l.length * 4 + 1, none⟩ (.int .i64 pc)).heap[b]? = W.heap[b]? := fun b hb => a0f _ _ hb
 have hl := a2q l
 refine ⟨{ p with fw := l ++ [{ q with x := { q.x with pc := pc } }] }, rfl, rfl, rfl, h.re rfl (by rw [hown]; exact hk) ?_ ?_ ?_ (h.to.same (hoth _ a.ft.symm)) (h.uo.same (hoth _ a.fu.symm)) ?_ (by simp) h.ht (fun q hq => .inl hq), by rw [hown]; exact hk⟩
 ·exact a1f (by rw [hown]; exact h.nd)
 ·refine (hoth _ a.bf).trans ?_
  show _ = some (dcb p (l.map Fw.x ++ [{ q.x with pc := pc }]).length _ _ _ _ _ _ _ _)
  rw [h.box]
  simp [hlen]
 ·have := h.fo.set (l.length * 4 + 1) (.int .i64 pc)
  show OwnR _ p.F 50 4 (l.map Fw.x ++ [{ q.x with pc := pc }]).length p.fc (a0p (l ++ [{ q with x := { q.x with pc := pc } }]))
  rw [e, a0u, List.set_append_right _ _ (by omega), show l.length * 4 + 1 - (a0p l).length = 1 by omega] at this
  rw [a0u]
  have e2 : (l.map Fw.x ++ [{ q.x with pc := pc }]).length = s.fr.length := by simp [hlen]
  rw [e2]
  exact this
 ·intro z hz
  rcases List.mem_append.1 hz with hz | hz
  ·exact (h.rg z (by rw [e]; exact List.mem_append_left _ hz)).same (hoth _ (a.gf z (by rw [e]; exact List.mem_append_left _ hz)))
  ·simp only [List.mem_singleton] at hz
   subst hz
   exact (h.rg q (by rw [e]; simp)).same (hoth _ (a.gf q (by rw [e]; simp)))
theorem Dc.setReg (h : Dc w0 p s W) (e : p.fw = l ++ [q]) (i : Nat) (v : Vl) (W' : World) (hW : W' = ((W.setCell ⟨q.g, i * 3, none⟩ (.int .i64 v.k)).setCell ⟨q.g, i * 3 + 1, none⟩ (.int .i64 v.n)).setCell ⟨q.g, i * 3 + 2, none⟩ (.string v.s)) :
  ∃ p', p'.B = p.B ∧ p'.ap = p.ap ∧ p'.F = p.F ∧ p'.fw = l ++ [{ q with x := { q.x with rs := q.x.rs.set i v } }] ∧ Dc w0 p' { s with fr := l.map Fw.x ++ [{ q.x with rs := q.x.rs.set i v }] } W' ∧ MK p.own W p'.own W' := by
 subst hW
 have a := a1f h.nd
 have hq : q ∈ p.fw := by rw [e]; simp
 have hlen := h.len.1
 rw [e] at hlen
 simp at hlen
 have hown : ({ p with fw := l ++ [{ q with x := { q.x with rs := q.x.rs.set i v } }] } : Mp).own = p.own := by simp [Mp.own, e]
 have hk : MK p.own W p.own (((W.setCell ⟨q.g, i * 3, none⟩ (.int .i64 v.k)).setCell ⟨q.g, i * 3 + 1, none⟩ (.int .i64 v.n)).setCell ⟨q.g, i * 3 + 2, none⟩ (.string v.s)) := ((MK.set (a2t hq)).trans (MK.set (a2t hq))).trans (MK.set (a2t hq))
 have hoth : ∀ b, b ≠ q.g → (((W.setCell ⟨q.g, i * 3, none⟩ (.int .i64 v.k)).setCell ⟨q.g, i * 3 + 1, none⟩ (.int .i64 v.n)).setCell ⟨q.g, i * 3 + 2, none⟩ (.string v.s)).heap[b]? = W.heap[b]? := fun b hb => (a0f _ _ hb).trans ((a0f _ _ hb).trans (a0f _ _ hb))
 refine ⟨{ p with fw := l ++ [{ q with x := { q.x with rs := q.x.rs.set i v } }] }, rfl, rfl, rfl, rfl, h.re rfl (by rw [hown]; exact hk) ?_ ?_ ?_ (h.to.same (hoth _ (a.gt q hq).symm)) (h.uo.same (hoth _ (a.gu q hq).symm)) ?_ (by simp) h.ht (fun q hq => .inl hq), by rw [hown]; exact hk⟩
 ·exact a1f (by rw [hown]; exact h.nd)
 ·refine (hoth _ (a.gb q hq).symm).trans ?_
  show _ = some (dcb p (l.map Fw.x ++ [{ q.x with rs := q.x.rs.set i v }]).length _ _ _ _ _ _ _ _)
  rw [h.box]
  simp [hlen]
 ·have := h.fo.same (hoth _ (a.gf q hq).symm)
  show OwnR _ p.F 50 4 (l.map Fw.x ++ [{ q.x with rs := q.x.rs.set i v }]).length p.fc (a0p (l ++ [{ q with x := { q.x with rs := q.x.rs.set i v } }]))
  have e2 : (l.map Fw.x ++ [{ q.x with rs := q.x.rs.set i v }]).length = s.fr.length := by simp [hlen]
  have e3 : a0p (l ++ [{ q with x := { q.x with rs := q.x.rs.set i v } }]) = a0p p.fw := by rw [e, a0u, a0u]; simp [a0p]
  rw [e2, e3]
  exact this
 ·intro z hz
  rcases List.mem_append.1 hz with hz | hz
  ·have hz' : z ∈ p.fw := by rw [e]; exact List.mem_append_left _ hz
   refine (h.rg z hz').same (hoth _ ?_)
   have hn := a.gg
   rw [e, List.map_append] at hn
   have := (List.nodup_append.1 hn).2.2 z.g (List.mem_map.2 ⟨z, hz, rfl⟩) q.g (by simp)
   exact this
  ·simp only [List.mem_singleton] at hz
   subst hz
   have := (((h.rg q hq).set (i * 3) (.int .i64 v.k)).set (i * 3 + 1) (.int .i64 v.n)).set (i * 3 + 2) (.string v.s)
   rw [← b1t] at this
   simpa using this
theorem Dc.pop (h : Dc w0 p s W) (e : p.fw = l ++ [q]) :
  Dc w0 { p with fw := l } { s with fr := l.map Fw.x } (W.setCell ⟨p.B, 0, none⟩ (.slice (some ⟨p.F, 0, none⟩) l.length p.fc)) ∧ MK p.own W ({ p with fw := l } : Mp).own (W.setCell ⟨p.B, 0, none⟩ (.slice (some ⟨p.F, 0, none⟩) l.length p.fc)) := by
 have a := a1f h.nd
 have hlen := h.len.1
 rw [e] at hlen
 simp at hlen
 have hsub : ∀ z ∈ l, z ∈ p.fw := fun z hz => by rw [e]; exact List.mem_append_left _ hz
 have hoth : ∀ b, b ≠ p.B → (W.setCell ⟨p.B, 0, none⟩ (.slice (some ⟨p.F, 0, none⟩) l.length p.fc)).heap[b]? = W.heap[b]? := fun b hb => a0f _ _ hb
 have hk : MK p.own W ({ p with fw := l } : Mp).own (W.setCell ⟨p.B, 0, none⟩ (.slice (some ⟨p.F, 0, none⟩) l.length p.fc)) := by
  refine ⟨(MK.set a1d).k, fun k hk => .inl ?_⟩
  simp only [Mp.own, List.mem_cons, List.mem_map] at hk ⊢
  rcases hk with h | h | h | h | ⟨z, hz, h⟩
  ·exact .inl h
  ·exact .inr (.inl h)
  ·exact .inr (.inr (.inl h))
  ·exact .inr (.inr (.inr (.inl h)))
  ·exact .inr (.inr (.inr (.inr ⟨z, hsub z hz, h⟩)))
 refine ⟨h.re rfl hk ?_ ?_ ?_ (h.to.same (hoth _ a.bt.symm)) (h.uo.same (hoth _ a.bu.symm)) (fun z hz => (h.rg z (hsub z hz)).same (hoth _ (a.gb z (hsub z hz)))) rfl h.ht (fun q hq => .inl hq), hk⟩
 ·have hn := a.gg
  rw [e, List.map_append] at hn
  exact ⟨a.bf, a.bt, a.bu, a.ft, a.fu, a.tu, fun z hz => a.gb z (hsub z hz), fun z hz => a.gf z (hsub z hz), fun z hz => a.gt z (hsub z hz), fun z hz => a.gu z (hsub z hz), (List.nodup_append.1 hn).1⟩
 ·have := a0k (i := 0) (.slice (some ⟨p.F, 0, none⟩) l.length p.fc) h.box
  refine this.trans ?_
  simp
 ·have := (h.fo.same (hoth _ a.bf.symm)).less (m := l.length) (by omega)
  show OwnR _ p.F 50 4 (l.map Fw.x).length p.fc (a0p l)
  rw [e, a0u, List.take_left' (a2q l)] at this
  rw [List.length_map]
  exact this
theorem Dc.push (h : Dc w0 p s W) (hm : MK p.own W p.own V) (h' : Dc w0 p s V) (hq1 : W.heap.size ≤ q.g) (hq : OwnR V q.g 30 3 q.x.rs.length q.c (flat q.x.rs)) (hown : w3.ownsRow base 50 4 (.slice (some ⟨g, 0, none⟩) (s.fr.length + 1) cap) (s.fr.length + 1) (a0p p.fw ++ q.cells)) (hg : V.grownBy w3 (some p.F)) (hat : p.F = g ∨ g = V.heap.size) :
  ∃ p', p'.B = p.B ∧ p'.ap = p.ap ∧ Dc w0 p' { s with fr := s.fr ++ [q.x] } (w3.setCell ⟨p.B, 0, none⟩ (.slice (some ⟨g, 0, none⟩) (s.fr.length + 1) cap)) ∧ MK p.own W p'.own (w3.setCell ⟨p.B, 0, none⟩ (.slice (some ⟨g, 0, none⟩) (s.fr.length + 1) cap)) := by
 have a := a1f h.nd
 have hl := h'.lt
 have hlW := h.lt
 have hsz := hm.k.size
 have hnot : q.g ∉ p.own := fun e => by have := hlW _ e; omega
 have hgo : g ∈ p.own ∨ V.heap.size ≤ g := by
  rcases hat with e | e
  ·exact .inl (e ▸ a2f)
  ·exact .inr (by omega)
 have hnew : ∀ k ∈ p.own, k ≠ p.F → k ≠ g := fun k hk hne e => by
  rcases hat with e2 | e2
  ·exact hne (by omega)
  ·have := hl k hk; omega
 have hgB := hnew p.B a1d a.bf
 have hgT := hnew p.T a4d a.ft.symm
 have hgU := hnew p.U a4v a.fu.symm
 have hgg : ∀ z ∈ p.fw, z.g ≠ g := fun z hz => hnew z.g (a2t hz) (a.gf z hz)
 have hqg : q.g ≠ g := fun e => by
  rcases hat with e2 | e2
  ·exact hnot (by rw [e, ← e2]; exact a2f)
  ·have := hq.lt; omega
 have hoth : ∀ b, b < V.heap.size → b ≠ p.F → b ≠ p.B → (w3.setCell ⟨p.B, 0, none⟩ (.slice (some ⟨g, 0, none⟩) (s.fr.length + 1) cap)).heap[b]? = V.heap[b]? := fun b hb h1 h2 => (a0f _ _ h2).trans (hg.block b hb (fun e => h1 (by cases e; rfl)))
 have hgow := OwnR.of hown
 have hk : MK p.own W ({ p with F := g, fc := cap, fw := p.fw ++ [q] } : Mp).own (w3.setCell ⟨p.B, 0, none⟩ (.slice (some ⟨g, 0, none⟩) (s.fr.length + 1) cap)) := by
  refine ⟨hm.k.then (((a1n.grown hg).mono (fun k _ e => by cases e; exact a2f)).set p.B 0 _ (fun _ => a1d)) (fun j _ hj => hj), fun k hk => ?_⟩
  simp only [Mp.own, List.mem_cons, List.map_append, List.map_cons, List.map_nil, List.mem_append, List.mem_map] at hk
  rcases hk with h1 | h1 | h1 | h1 | ⟨z, hz, h1⟩ | h1 | h1
  ·exact .inl (h1 ▸ a1d)
  ·rcases hgo with h2 | h2
   ·exact .inl (h1 ▸ h2)
   ·exact .inr (by omega)
  ·exact .inl (h1 ▸ a4d)
  ·exact .inl (h1 ▸ a4v)
  ·exact .inl (h1 ▸ a2t hz)
  ·exact .inr (by omega)
  ·cases h1
 refine ⟨{ p with F := g, fc := cap, fw := p.fw ++ [q] }, rfl, rfl, h.re rfl hk ?_ ?_ ?_ ?_ ?_ ?_ ?_ h.ht (fun q hq => .inl hq), hk⟩
 ·refine ⟨hgB, a.bt, a.bu, hgT.symm, hgU.symm, a.tu, ?_, ?_, ?_, ?_, ?_⟩
  ·intro z hz
   rcases List.mem_append.1 hz with hz | hz
   ·exact a.gb z hz
   ·simp only [List.mem_singleton] at hz; subst hz; exact fun e => hnot (e ▸ a1d)
  ·intro z hz
   rcases List.mem_append.1 hz with hz | hz
   ·exact hgg z hz
   ·simp only [List.mem_singleton] at hz; subst hz; exact hqg
  ·intro z hz
   rcases List.mem_append.1 hz with hz | hz
   ·exact a.gt z hz
   ·simp only [List.mem_singleton] at hz; subst hz; exact fun e => hnot (e ▸ a4d)
  ·intro z hz
   rcases List.mem_append.1 hz with hz | hz
   ·exact a.gu z hz
   ·simp only [List.mem_singleton] at hz; subst hz; exact fun e => hnot (e ▸ a4v)
  ·rw [List.map_append, List.nodup_append]
   refine ⟨a.gg, by simp, fun x hx y hy => ?_⟩
   obtain ⟨z, hz, rfl⟩ := List.mem_map.1 hx
   simp at hy
   subst hy
   exact fun e => hnot (e ▸ a2t hz)
 ·have hb3 : w3.heap[p.B]? = V.heap[p.B]? := hg.block _ (hl _ a1d) (fun e => a.bf (Option.some.inj e))
  have := a0k (i := 0) (.slice (some ⟨g, 0, none⟩) (s.fr.length + 1) cap) (hb3.trans h'.box)
  refine this.trans ?_
  simp
 ·have := hgow.1.same (W' := w3.setCell ⟨p.B, 0, none⟩ (.slice (some ⟨g, 0, none⟩) (s.fr.length + 1) cap)) (a0f _ _ hgB.symm)
  show OwnR _ g 50 4 (s.fr ++ [q.x]).length cap (a0p (p.fw ++ [q]))
  rw [a0u, List.length_append]
  simpa [a0p] using this
 ·exact h'.to.same (hoth _ (hl _ a4d) a.ft.symm a.bt.symm)
 ·exact h'.uo.same (hoth _ (hl _ a4v) a.fu.symm a.bu.symm)
 ·intro z hz
  rcases List.mem_append.1 hz with hz | hz
  ·exact (h'.rg z hz).same (hoth _ (hl _ (a2t hz)) (a.gf z hz) (a.gb z hz))
  ·simp only [List.mem_singleton] at hz
   subst hz
   exact hq.same (hoth _ hq.lt (fun e => hnot (e ▸ a2f)) (fun e => hnot (e ▸ a1d)))
 ·show (p.fw ++ [q]).map Fw.x = s.fr ++ [q.x]
  rw [List.map_append, h.hf]; rfl
theorem Dc.pushU (h : Dc w0 p s V) {t : ByteArray} (hown : w3.ownsRow base 9 1 (.slice (some ⟨g, 0, none⟩) (s.out.length + 1) cap) (s.out.length + 1) (s.out.map Value.string ++ [.string t])) (hg : V.grownBy w3 (some p.U)) (hat : p.U = g ∨ g = V.heap.size) :
  ∃ p', p'.B = p.B ∧ p'.ap = p.ap ∧ p'.fw = p.fw ∧ p'.F = p.F ∧ Dc w0 p' { s with out := s.out ++ [t] } (w3.setCell ⟨p.B, 2, none⟩ (.slice (some ⟨g, 0, none⟩) (s.out.length + 1) cap)) ∧ MK p.own V p'.own (w3.setCell ⟨p.B, 2, none⟩ (.slice (some ⟨g, 0, none⟩) (s.out.length + 1) cap)) := by
 have a := a1f h.nd
 have hl := h.lt
 have hgo : g ∈ p.own ∨ V.heap.size ≤ g := by
  rcases hat with e | e
  ·exact .inl (e ▸ a4v)
  ·exact .inr (by omega)
 have hnew : ∀ k ∈ p.own, k ≠ p.U → k ≠ g := fun k hk hne e => by
  rcases hat with e2 | e2
  ·exact hne (by omega)
  ·have := hl k hk; omega
 have hgB := hnew p.B a1d a.bu
 have hgF := hnew p.F a2f a.fu
 have hgT := hnew p.T a4d a.tu
 have hgg : ∀ z ∈ p.fw, z.g ≠ g := fun z hz => hnew z.g (a2t hz) (a.gu z hz)
 have hoth : ∀ b, b < V.heap.size → b ≠ p.U → b ≠ p.B → (w3.setCell ⟨p.B, 2, none⟩ (.slice (some ⟨g, 0, none⟩) (s.out.length + 1) cap)).heap[b]? = V.heap[b]? := fun b hb h1 h2 => (a0f _ _ h2).trans (hg.block b hb (fun e => h1 (by cases e; rfl)))
 have hgow := OwnR.of hown
 have hk : MK p.own V ({ p with U := g, uc := cap } : Mp).own (w3.setCell ⟨p.B, 2, none⟩ (.slice (some ⟨g, 0, none⟩) (s.out.length + 1) cap)) := by
  refine ⟨((a1n.grown hg).mono (fun k _ e => by cases e; exact a4v)).set p.B 2 _ (fun _ => a1d), fun k hk => ?_⟩
  simp only [Mp.own, List.mem_cons, List.mem_map] at hk
  rcases hk with h1 | h1 | h1 | h1 | ⟨z, hz, h1⟩
  ·exact .inl (h1 ▸ a1d)
  ·exact .inl (h1 ▸ a2f)
  ·exact .inl (h1 ▸ a4d)
  ·rcases hgo with h2 | h2
   ·exact .inl (h1 ▸ h2)
   ·exact .inr (by omega)
  ·exact .inl (h1 ▸ a2t hz)
 refine ⟨{ p with U := g, uc := cap }, rfl, rfl, rfl, rfl, h.re rfl hk ?_ ?_ ?_ ?_ ?_ ?_ h.hf h.ht (fun q hq => .inl hq), hk⟩
 ·exact ⟨a.bf, a.bt, hgB, a.ft, hgF, hgT, a.gb, a.gf, a.gt, hgg, a.gg⟩
 ·have hb3 : w3.heap[p.B]? = V.heap[p.B]? := hg.block _ (hl _ a1d) (fun e => a.bu (Option.some.inj e))
  have := a0k (i := 2) (.slice (some ⟨g, 0, none⟩) (s.out.length + 1) cap) (hb3.trans h.box)
  refine this.trans ?_
  simp
 ·exact h.fo.same (hoth _ (hl _ a2f) a.fu a.bf.symm)
 ·exact h.to.same (hoth _ (hl _ a4d) a.tu a.bt.symm)
 ·have := hgow.1.same (W' := w3.setCell ⟨p.B, 2, none⟩ (.slice (some ⟨g, 0, none⟩) (s.out.length + 1) cap)) (a0f _ _ hgB.symm)
  show OwnR _ g 9 1 (s.out ++ [t]).length cap ((s.out ++ [t]).map Value.string)
  rw [List.map_append, List.length_append]
  exact this
 ·exact fun z hz => (h.rg z hz).same (hoth _ (hl _ (a2t hz)) (a.gu z hz) (a.gb z hz))
theorem Dc.tabCells (h : Dc w0 p s W) {i : Nat} {t : Tb} (ht : s.tb[i]? = some t) : ∃ q, p.tw[i]? = some q ∧ q.t = t ∧ W.cell? ⟨p.T, i * 2, none⟩ = some q.a ∧ W.cell? ⟨p.T, i * 2 + 1, none⟩ = some q.b ∧ W.frozen? ⟨p.T, i * 2, none⟩ = false ∧ W.frozen? ⟨p.T, i * 2 + 1, none⟩ = false ∧ Rw W (p.own ++ p.ap) q.a t.ks ∧ Rw W (p.own ++ p.ap) q.b t.vs := by
 rw [← h.ht, List.getElem?_map] at ht
 obtain ⟨q, hq, rfl⟩ := Option.map_eq_some_iff.1 ht
 have key : ∀ (l : List Tw) (i : Nat), l[i]? = some q → (a0m l)[i * 2]? = some q.a ∧ (a0m l)[i * 2 + 1]? = some q.b := by
  intro l
  induction l with
  | nil => intro i hi; simp at hi
  | cons x xs ih =>
   intro i hi
   have e : a0m (x :: xs) = x.a :: x.b :: a0m xs := by simp [a0m]
   rw [e]
   cases i with
   | zero => simp at hi; subst hi; simp
   | succ i =>
    rw [show (i + 1) * 2 = i * 2 + 1 + 1 by omega]
    simp only [List.getElem?_cons_succ] at hi ⊢
    exact ih i hi
 obtain ⟨k1, k2⟩ := key _ _ hq
 have hm := List.mem_of_getElem? hq
 exact ⟨q, hq, rfl, (h.to.cell k1).1, (h.to.cell k2).1, (h.to.cell k1).2, (h.to.cell k2).2, (h.tr q hm).1, (h.tr q hm).2⟩
theorem Dc.cells (h : Dc w0 p s W) : W.cell? ⟨p.B, 0, none⟩ = some (.slice (some ⟨p.F, 0, none⟩) s.fr.length p.fc) ∧ W.cell? ⟨p.B, 1, none⟩ = some (.slice (some ⟨p.T, 0, none⟩) s.tb.length p.tc) ∧ W.cell? ⟨p.B, 2, none⟩ = some (.slice (some ⟨p.U, 0, none⟩) s.out.length p.uc) ∧ W.cell? ⟨p.B, 3, none⟩ = some (.int .i64 s.st) ∧ W.cell? ⟨p.B, 4, none⟩ = some (.int .i64 s.en) ∧ W.cell? ⟨p.B, 5, none⟩ = some (.int .i64 s.er) ∧ W.cell? ⟨p.B, 6, none⟩ = some (.int .i64 s.la.k) ∧ W.cell? ⟨p.B, 7, none⟩ = some (.int .i64 s.la.n) ∧ W.cell? ⟨p.B, 8, none⟩ = some (.string s.la.s) ∧ ∀ i, W.frozen? ⟨p.B, i, none⟩ = false :=
 ⟨a0a h.box rfl, a0a h.box rfl, a0a h.box rfl, a0a h.box rfl, a0a h.box rfl, a0a h.box rfl, a0a h.box rfl, a0a h.box rfl, a0a h.box rfl, fun _ => a0e h.box⟩
end
theorem c6d (g j : Nat) : (⟨g, 0, none⟩ : Addr).add j = ⟨g, j, none⟩ := by
 simp only [Addr.add]
 split
 ·rename_i h; rw [h]
 ·simp
theorem a5s {w' : World} {b : Nat} (h : w.grownBy w' (some b)) (hm : m ≤ w.heap.size) (hb : m ≤ b) : Below m w w' := (a1n.grown h).below hm fun k hk e => by cases e; omega
theorem a6j {e : Nat} (h : W.heap[g]? = some (.cells #[] e)) (hb : base ≤ g) : W.ownsRow base e sz (.slice (some ⟨g, 0, none⟩) 0 0) 0 [] :=
 ⟨by simp, .inr ⟨g, 0, #[], rfl, hb, h, Nat.le_refl _, by unfold maxLen; omega, by simp, by simp⟩⟩
theorem a3p {P : Program} (w : World) {ops : Array Oper} {rest : List Oper} {o : Oper} {a : Act} {Q : Exit → Act → World → Prop} (hgd : o.guard = none) (s x : Operand) (t : TypeId) (ho : o.op = .call { callee := .builtin .append, args := #[s, x], argTypes := #[t, t] }) (base : Nat) (e : TypeId) (i : TypeInfo) (z : Value) (size bytes : Nat) (ht : P.underlying t = some (.slice e)) (hi : P.info? e = some i) (hz : i.zero = some z) (hsize : i.size = size) (hby : i.bytes = bytes) (hzs : z.cells.size = size) (hsz : 0 < size) (g0 c0 n : Nat) (xs : List Value) (hs : a.eval s = .slice (some ⟨g0, 0, none⟩) n c0) (hown : w.ownsRow base e size (.slice (some ⟨g0, 0, none⟩) n c0) n xs) (ad : Addr) (m c : Nat) (news : List Value) (hx : a.eval x = .slice (some ad) m c) (hl : news.length = m * size) (hnews : ∀ j u, news[j]? = some u → w.cell? (ad.add j) = some u) (h1 : ∀ u ∈ news, u.oneCell' = true) (h63 : n + m ≤ maxLen) (hbytes : (n + m) * bytes ≤ 140737488355328) (hbase : base ≤ w.heap.size) (H : Nat) (hH : w.heap.size = H) (h : ∀ g cap w', w'.ownsRow base e size (.slice (some ⟨g, 0, none⟩) (n + m) cap) (n + m) (xs ++ news) → w.grownBy w' (some g0) → (g0 = g ∨ g = H) → g < w'.heap.size → wpList P ops Q rest (a.put o.dst (.slice (some ⟨g, 0, none⟩) (n + m) cap)) w') : wpList P ops Q (o :: rest) a w := by
 rcases Nat.eq_zero_or_pos m with rfl | hm
 ·obtain rfl : news = [] := by simpa using hl
  have hlt : g0 < w.heap.size := by
   rcases hown.2 with ⟨e1, _⟩ | ⟨g, cap, cur, e1, _, e2, _⟩
   ·cases e1
   ·cases e1; exact (Array.getElem?_eq_some_iff.1 e2).1
  have hcap : n ≤ c0 := by
   rcases hown.2 with ⟨e1, _⟩ | ⟨g, cap, cur, e1, _, _, e2, _⟩
   ·cases e1
   ·cases e1; exact e2
  refine wpList_plain hgd fun K hK => ?_
  have key := hK _ _ (h g0 c0 w (by simpa using hown) (World.grownBy.refl _ _) (.inl rfl) hlt)
  have hrun : (Builtin.append_ #[t, t] o.type #[.slice (some ⟨g0, 0, none⟩) n c0, .slice (some ad) 0 c]).run P w = .ok (.slice (some ⟨g0, 0, none⟩) n c0) w := by
   simp [Builtin.append_, run_underlying ht, sizeOf, typeInfo, hi, Builtin.lenOf, Builtin.firstCells, hcap, storeCells, loadCells, loadCellsFrom]
  unfold Oper.wp
  simp [execOp, ho, resolve, invoke, builtin, hs, hx, hrun, Result.andThen]
  exact key
 ·exact wpList_append_lies w hgd s x t ho base e i z size bytes ht hi hz hsize hby hzs hsz _ n xs hs hown ad m c news hx hl hnews h1 hm h63 hbytes hbase H hH fun g cap w' a1 a2 a3 a4 => h g cap w' a1 a2 (by rcases a3 with e | e; exact .inl (Option.some.inj e); exact .inr e) a4
section
variable {w0 : World} {p : Mp} {s : St} {W : World}
theorem c1t (h : Dc w0 p s W) (v : Vl) {nu : Nat} (hnu : s.out.length = nu) (h2 : nu ≤ 60000) :
  Calls Tryz.prog 91 #[.pointer (some ⟨p.B, 0, none⟩), v.v] W fun e W' => e = .returned (.tuple #[]) ∧ ∃ p', p'.B = p.B ∧ p'.ap = p.ap ∧ p'.fw = p.fw ∧ p'.F = p.F ∧ Dc w0 p' { s with out := s.out ++ [a3n v.k v.n v.s] } W' ∧ MK p.own W p'.own W' := by
 have hb := a0c (Below.refl W.heap.size W) (bx v)
 obtain ⟨w1, hw1⟩ := exq (W.alloc (bx v))
 rw [hw1] at hb
 have g1 : w1.heap[W.heap.size]? = some (bx v) := by rw [← hw1]; exact a0h _ _
 have hn := wf64 v.wn
 have q1 := fun w => a7z v.k v.n v.s w hn.1 hn.2
 obtain ⟨tx, htx⟩ := exq (a3n v.k v.n v.s)
 rw [htx] at q1 ⊢
 clear htx
 replace q1 : Hid _ := q1
 obtain ⟨c0, c1, c2, _, _, _⟩ := in3 g1
 go_enter Tryz.func91, Tryz.ntmps91
 go_wp2_with (go_at_call 105; refine (q1.out _).mono ?_; rintro e w2 ⟨rfl, hb2⟩; refine Hid.out ?_)
 refine Lib.hid ?_
 clear c0 c1 c2
 have E2 := a0b hb hb2
 have gU := a0h w2 (.cells #[.string tx] 9)
 obtain ⟨U, hU⟩ := exq (w2.alloc (.cells #[.string tx] 9))
 have EU : Below W.heap.size W U := by rw [← hU]; exact a0c E2 _
 rw [hU] at gU
 obtain ⟨Q, hQ⟩ := exq (w2.heap.size)
 rw [hQ] at gU
 have hu := h.on EU
 obtain ⟨_, _, c2, _⟩ := (h.on E2).cells
 obtain ⟨_, _, d2, _⟩ := hu.cells
 have hown := hu.uo.owns (base := w0.heap.size) (hu.lo _ a4v)
 have hsz := hu.bl.size
 obtain ⟨i0, hi0, hz0, hz1, hz2⟩ := a1h c0x
 have ap := a1f h.nd
 have hneU : some p.B ≠ some p.U := fun e => ap.bu (Option.some.inj e)
 have h63 : nu + 1 ≤ maxLen := by unfold maxLen; omega
 have hby : (nu + 1) * 16 ≤ 140737488355328 := by omega
 have hnews : ∀ (j : Nat) (x : Value), [Value.string tx][j]? = some x → U.cell? ((⟨Q, 0, none⟩ : Addr).add j) = some x := fun j x hx => by
  match j, hx with
  | 0, hx => cases hx; exact a0a (i := 0) gU rfl
  | j + 1, hx => simp at hx
 have hone : ∀ x ∈ [Value.string tx], x.oneCell' = true := fun x hx => by simp at hx; subst hx; rfl
 have hlt := hu.lt
 rw [hnu] at c2 d2 hown
 have hx := hu.box
 replace hnu : Hid _ := hnu
 replace hx : Hid _ := hx
 go_wp2_with (at_builtin; refine wpList_append_lies _ (by rfl) _ _ _ (by rfl) w0.heap.size 9 i0 _ 1 16 Tryz.underlying27 hi0 hz0 hz1 hz2 rfl (by omega) (.slice (some ⟨p.U, 0, none⟩) nu p.uc) nu _ (by rfl) hown ⟨Q, 0, none⟩ 1 1 [Value.string tx] (by rfl) (by rfl) hnews hone (by omega) h63 hby hsz _ rfl ?_; intro g3 cap3 w3 hown3 hgrow hat hlt3; have p1 := (hgrow.block _ (hlt _ a1d) hneU).trans hx.out; have d4 : w3.cell? ⟨p.B, 2, none⟩ = some (.slice (some ⟨p.U, 0, none⟩) s.out.length p.uc) := a0a p1 rfl; have f4 : w3.frozen? ⟨p.B, 2, none⟩ = false := a0e p1)
 have hat' : p.U = g3 ∨ g3 = U.heap.size := by
  rcases hat with e | e
  ·exact .inl (Option.some.inj e)
  ·exact .inr e
 rw [← hnu.out] at hown3 ⊢
 obtain ⟨q', e1, e2, e3, e4, hM', hK⟩ := hu.pushU hown3 hgrow hat'
 go_end0
 exact ⟨rfl, q', e1, e2, e3, e4, hM', (MK.below EU).trans hK⟩
theorem d2u {c : Value} (h : tm[2]?.getD undef = .pointer (some ⟨B, 0, none⟩)) (h3 : tm[3]?.getD undef = c) (hx : W.heap[B]? = some (bx x)) : (results Tryz.f56 tm).run Tryz.prog W = .ok (.tuple #[x.v, c]) W := by
 obtain ⟨d0, d1, d2, _, _, _⟩ := in3 hx
 simp [results, Tryz.results56, go_sem, h, h3, d0, d1, d2]
theorem d0j (h : Dc w0 p s W) (h2 : s.tb.length = 200) : Calls Tryz.prog 56 #[.pointer (some ⟨p.B, 0, none⟩)] W fun e W' => e = .returned (.tuple #[nilV.v, .int .i64 1]) ∧ Below W.heap.size W W' := by
 have hb := a0c (Below.refl W.heap.size W) (.cells #[.int .i64 0, .int .i64 0, .string ⟨#[]⟩] 30)
 have gN : (W.alloc (.cells #[.int .i64 0, .int .i64 0, .string ⟨#[]⟩] 30)).heap[W.heap.size]? = some (bx nilV) := a0h _ _
 obtain ⟨_, c1, _⟩ := h.cells
 have hB := h.lt _ a1d
 rw [h2] at c1
 clear h2
 go_enter Tryz.func56, Tryz.ntmps56
 go_wp2
 exact bodyPost_ret (d2u (B := W.heap.size) (x := nilV) rfl rfl gN) rfl ⟨rfl, hb⟩
theorem Dc.newT (h : Dc w0 p s V) (hb : Below V.heap.size V w3) {tw' : List Tw} (hg : V.heap.size ≤ g) (ho : OwnR w3 g 57 2 tw'.length cap (a0m tw')) (htr : ∀ q ∈ tw', q ∈ p.tw ∨ ∀ O : List Nat, (∀ k ∈ O, k < V.heap.size ∨ k = g) → Rw w3 O q.a q.t.ks ∧ Rw w3 O q.b q.t.vs) :
  ∃ p', p'.B = p.B ∧ p'.ap = p.ap ∧ p'.fw = p.fw ∧ p'.F = p.F ∧ Dc w0 p' { s with tb := tw'.map Tw.t } (w3.setCell ⟨p.B, 1, none⟩ (.slice (some ⟨g, 0, none⟩) tw'.length cap)) ∧ MK p.own V p'.own (w3.setCell ⟨p.B, 1, none⟩ (.slice (some ⟨g, 0, none⟩) tw'.length cap)) := by
 have a := a1f h.nd
 have hl := h.lt
 have hnew : ∀ k ∈ p.own, k ≠ g := fun k hk e => by have := hl k hk; omega
 have hoth : ∀ b, b < V.heap.size → b ≠ p.B → (w3.setCell ⟨p.B, 1, none⟩ (.slice (some ⟨g, 0, none⟩) tw'.length cap)).heap[b]? = V.heap[b]? := fun b hb1 h2 => (a0f _ _ h2).trans (hb.block b hb1)
 have hk : MK p.own V ({ p with T := g, tc := cap, tw := tw' } : Mp).own (w3.setCell ⟨p.B, 1, none⟩ (.slice (some ⟨g, 0, none⟩) tw'.length cap)) := by
  refine ⟨(a1n.of_below hb).set p.B 1 _ (fun _ => a1d), fun k hk => ?_⟩
  simp only [Mp.own, List.mem_cons, List.mem_map] at hk
  rcases hk with h1 | h1 | h1 | h1 | ⟨z, hz, h1⟩
  ·exact .inl (h1 ▸ a1d)
  ·exact .inl (h1 ▸ a2f)
  ·exact .inr (by omega)
  ·exact .inl (h1 ▸ a4v)
  ·exact .inl (h1 ▸ a2t hz)
 refine ⟨{ p with T := g, tc := cap, tw := tw' }, rfl, rfl, rfl, rfl, h.re rfl hk ?_ ?_ ?_ ?_ ?_ ?_ h.hf rfl ?_, hk⟩
 ·exact ⟨a.bf, hnew _ a1d, a.bu, hnew _ a2f, a.fu, (hnew _ a4v).symm, a.gb, a.gf, fun z hz => hnew _ (a2t hz), a.gu, a.gg⟩
 ·have hb3 : w3.heap[p.B]? = V.heap[p.B]? := hb.block _ (hl _ a1d)
  have := a0k (i := 1) (.slice (some ⟨g, 0, none⟩) tw'.length cap) (hb3.trans h.box)
  refine this.trans ?_
  simp
 ·exact h.fo.same (hoth _ (hl _ a2f) a.bf.symm)
 ·have := ho.same (W' := w3.setCell ⟨p.B, 1, none⟩ (.slice (some ⟨g, 0, none⟩) tw'.length cap)) (a0f _ _ (hnew _ a1d).symm)
  show OwnR _ g 57 2 (tw'.map Tw.t).length cap (a0m tw')
  rw [List.length_map]
  exact this
 ·exact h.uo.same (hoth _ (hl _ a4v) a.bu.symm)
 ·exact fun z hz => (h.rg z hz).same (hoth _ (hl _ (a2t hz)) (a.gb z hz))
 ·intro z hz
  rcases htr z hz with h1 | h1
  ·exact .inl h1
  ·refine .inr ?_
   have hO : ∀ k ∈ ({ p with T := g, tc := cap, tw := tw' } : Mp).own ++ p.ap, k < V.heap.size ∨ k = g := fun k hk' => by
    rcases List.mem_append.1 hk' with hk' | hk'
    ·simp only [Mp.own, List.mem_cons, List.mem_map] at hk'
     rcases hk' with h1 | h1 | h1 | h1 | ⟨z, hz, h1⟩
     ·exact .inl (h1 ▸ hl _ a1d)
     ·exact .inl (h1 ▸ hl _ a2f)
     ·exact .inr h1
     ·exact .inl (h1 ▸ hl _ a4v)
     ·exact .inl (h1 ▸ hl _ (a2t hz))
    ·exact .inl (h.al k hk').1
   have hB : p.B ∈ ({ p with T := g, tc := cap, tw := tw' } : Mp).own ++ p.ap := List.mem_append_left _ (by simp [Mp.own])
   exact ⟨(h1 _ hO).1.keep (MK.set hB), (h1 _ hO).2.keep (MK.set hB)⟩
theorem d0k (h : Dc w0 p s W) (hnt : s.tb.length = nt) (h2 : nt < 200) : Calls Tryz.prog 56 #[.pointer (some ⟨p.B, 0, none⟩)] W fun e W' => e = .returned (.tuple #[(tbV nt).v, .int .i64 0]) ∧ ∃ p', p'.B = p.B ∧ p'.ap = p.ap ∧ p'.fw = p.fw ∧ p'.F = p.F ∧ Dc w0 p' { s with tb := s.tb ++ [⟨[], []⟩] } W' ∧ MK p.own W p'.own W' := by
 have hb := a0c (Below.refl W.heap.size W) (.cells #[.int .i64 0, .int .i64 0, .string ⟨#[]⟩] 30)
 have gN : (W.alloc (.cells #[.int .i64 0, .int .i64 0, .string ⟨#[]⟩] 30)).heap[W.heap.size]? = some (bx nilV) := a0h _ _
 obtain ⟨V, hV⟩ := exq (W.alloc (.cells #[.int .i64 0, .int .i64 0, .string ⟨#[]⟩] 30))
 rw [hV] at hb gN
 obtain ⟨_, c1, _⟩ := (h.on hb).cells
 rw [hnt] at c1
 have hdec : decide ((200 : Int) ≤ nt) = false := by simp; omega
 have hz : W.heap.size < V.heap.size := a0n gN
 have gE := a0h V (.cells #[] 57)
 obtain ⟨Q, hQ⟩ := exq (V.heap.size)
 obtain ⟨U, hU⟩ := exq (V.alloc (.cells #[] 57))
 have hb2 : Below V.heap.size V U := by rw [← hU]; exact a0c (Below.refl _ _) _
 have hQU : Q < U.heap.size := by rw [← hU, ← hQ]; simp
 rw [hU, hQ] at gE
 have hu := (h.on hb).on hb2
 obtain ⟨_, d1, _⟩ := hu.cells
 have hlt := hu.lt
 have hltW := h.lt
 obtain ⟨i0, hi0, hz0, hz1, hz2⟩ := a1h a9x
 have hsz := hu.bl.size
 have hbQ : w0.heap.size ≤ Q := by have := (h.on hb).bl.size; omega
 have hown : U.ownsRow w0.heap.size 57 2 (.slice (some ⟨Q, 0, none⟩) 0 0) 0 [] := a6j gE hbQ
 have hnews : ∀ j x, (a0m p.tw)[j]? = some x → U.cell? ((⟨p.T, 0, none⟩ : Addr).add j) = some x := fun j x hx => by
  have := (hu.to.cell hx).1
  rw [c6d]
  exact this
 have hone : ∀ x ∈ a0m p.tw, x.oneCell' = true := fun x hx => by
  obtain ⟨q, hq, hx⟩ := List.mem_flatMap.1 hx
  obtain ⟨⟨a1, c1, e1, _⟩, ⟨a2, c2, e2, _⟩⟩ := hu.tr q hq
  simp at hx
  rcases hx with rfl | rfl
  ·rw [e1]; rfl
  ·rw [e2]; rfl
 have hlen : (a0m p.tw).length = nt * 2 := by rw [a3o, hu.len.2, hnt]
 have hnB : Q ≠ p.B := fun e => by have := (h.on hb).lt _ a1d; omega
 rw [hnt] at d1
 replace hnt : Hid _ := hnt
 have h63 : 0 + nt ≤ maxLen := by unfold maxLen; omega
 have hby : (0 + nt) * 48 ≤ 140737488355328 := by omega
 have hx := hu.box
 replace hx : Hid _ := hx
 replace hltW : Hid _ := hltW
 replace hlt : Hid _ := hlt
 go_enter Tryz.func56, Tryz.ntmps56
 go_wp2_with (at_builtin; refine a3p _ (by rfl) _ _ _ (by rfl) w0.heap.size 57 i0 _ 2 48 Tryz.underlying26 hi0 hz0 hz1 hz2 rfl (by omega) Q 0 0 _ (by rfl) hown ⟨p.T, 0, none⟩ nt p.tc (a0m p.tw) (by rfl) hlen hnews hone h63 hby hsz _ rfl ?_; intro g1 cap1 w2 hown1 hgrow hat hlt1; rw [Nat.zero_add] at hown1 ⊢; rw [List.nil_append] at hown1; refine Hid.out ?_)
 refine Lib.hid ?_
 have hUV := hb2.size
 have n1 : Below V.heap.size V w2 := hb2.trans (a5s hgrow hUV (by omega))
 have g1V : V.heap.size ≤ g1 := by rcases hat with e | e <;> omega
 have gZ := a0h w2 (.cells #[.slice none 0 0, .slice none 0 0] 57)
 obtain ⟨Z, hZ⟩ := exq (w2.heap.size)
 obtain ⟨X, hX⟩ := exq (w2.alloc (.cells #[.slice none 0 0, .slice none 0 0] 57))
 have hb3 : Below w2.heap.size w2 X := by rw [← hX]; exact a0c (Below.refl _ _) _
 have hXs : X.heap.size = w2.heap.size + 1 := by rw [← hX]; simp
 rw [hX, hZ] at gZ
 have nX : Below V.heap.size V X := n1.trans (hb3.mono n1.size)
 have hx2 := (h.on hb).on nX
 obtain ⟨f1, cp1, e1, hf1⟩ : ∃ (cur : Array Value) (c : Nat), True ∧ True := ⟨#[], 0, trivial, trivial⟩
 have hown2 : X.ownsRow w0.heap.size 57 2 (.slice (some ⟨g1, 0, none⟩) nt cap1) nt (a0m p.tw) := by
  obtain ⟨a1, a2⟩ := OwnR.of hown1
  exact (a1.same (hb3.block _ (by have := a1.lt; omega))).owns a2
 have hnews2 : ∀ j x, [Value.slice none 0 0, Value.slice none 0 0][j]? = some x → X.cell? ((⟨Z, 0, none⟩ : Addr).add j) = some x := fun j x hx => by
  rw [c6d]
  match j, hx with
  | 0, hx => cases hx; exact a0a (i := 0) gZ rfl
  | 1, hx => cases hx; exact a0a (i := 1) gZ rfl
  | j + 2, hx => simp at hx
 have hone2 : ∀ x ∈ [Value.slice none 0 0, Value.slice none 0 0], x.oneCell' = true := fun x hx => by simp at hx; subst hx; rfl
 have h632 : nt + 1 ≤ maxLen := by unfold maxLen; omega
 have hby2 : (nt + 1) * 48 ≤ 140737488355328 := by omega
 have hsz2 := hx2.bl.size
 have hB3 := hx2.box
 replace hB3 : Hid _ := hB3
 clear f1 cp1 e1 hf1 hx hown hnews hone hlen h63 hby hsz
 have hnB : some p.B ≠ some g1 := fun e => by have := (h.on hb).lt _ a1d; have := Option.some.inj e; omega
 have hne : ¬ W.heap.size = p.B := fun e => by have := hltW.out _ a1d; omega
 have hnW : some W.heap.size ≠ some g1 := fun e => by have := Option.some.inj e; omega
 have gN3 := a0j nX gN
 replace gN3 : Hid _ := gN3
 go_wp2_with (at_builtin; refine wpList_append_lies _ (by rfl) _ _ _ (by rfl) w0.heap.size 57 i0 _ 2 48 Tryz.underlying26 hi0 hz0 hz1 hz2 rfl (by omega) (.slice (some ⟨g1, 0, none⟩) nt cap1) nt _ (by rfl) hown2 ⟨Z, 0, none⟩ 1 1 [Value.slice none 0 0, Value.slice none 0 0] (by rfl) (by rfl) hnews2 hone2 (by omega) h632 hby2 hsz2 _ rfl ?_; intro g3 cap3 w3 hown3 hgrow3 hat3 hlt3; have p1 := (hgrow3.block _ (hx2.lt _ a1d) hnB).trans hB3.out; have d3 : w3.cell? ⟨p.B, 1, none⟩ = some (.slice (some ⟨p.T, 0, none⟩) s.tb.length p.tc) := a0a p1 rfl; have f3 : w3.frozen? ⟨p.B, 1, none⟩ = false := a0e p1; have g1' := (hgrow3.block _ (a0n gN3.out) hnW).trans gN3.out; obtain ⟨c0, c1, c2, f0, f1, f2⟩ := in3 g1')
 have hm := h.more hb (c := W.heap.size) (Nat.le_refl _) hz
 have n3 : Below V.heap.size V w3 := nX.trans (a5s hgrow3 nX.size g1V)
 have g3V : V.heap.size ≤ g3 := by
  rcases hat3 with e | e
  ·have e9 : g1 = g3 := Option.some.inj e; omega
  ·have := nX.size; omega
 have ho3 : OwnR w3 g3 57 2 (p.tw ++ [(⟨⟨[], []⟩, .slice none 0 0, .slice none 0 0⟩ : Tw)]).length cap3 (a0m (p.tw ++ [(⟨⟨[], []⟩, .slice none 0 0, .slice none 0 0⟩ : Tw)])) := by
  have := (OwnR.of hown3).1
  rw [a5c, List.length_append, hu.len.2, hnt.out]
  simpa [a0m] using this
 obtain ⟨p', e1, e2, e3, e4, hM, hK⟩ := hm.newT n3 g3V ho3 (fun q hq => by
  rcases List.mem_append.1 hq with hq | hq
  ·exact .inl hq
  ·simp only [List.mem_singleton] at hq
   subst hq
   exact .inr fun O _ => ⟨⟨none, 0, rfl, by simp, fun h => absurd rfl h⟩, ⟨none, 0, rfl, by simp, fun h => absurd rfl h⟩⟩)
 have el : (p.tw ++ [(⟨⟨[], []⟩, .slice none 0 0, .slice none 0 0⟩ : Tw)]).length = nt + 1 := by rw [List.length_append, hu.len.2, hnt.out]; rfl
 have em : (p.tw ++ [(⟨⟨[], []⟩, .slice none 0 0, .slice none 0 0⟩ : Tw)]).map Tw.t = s.tb ++ [⟨[], []⟩] := by rw [List.map_append, hu.ht]; rfl
 rw [el, em] at hM
 rw [el] at hK
 have hc : W.heap.size ∈ p'.ap := by rw [e2]; simp
 have hM2 := (hM.wrote hc h.bl.size (a8e _ W.heap.size (tbV nt))).less e2
 have hK2 : MK p.own W p'.own _ := ((MK.below hb).trans hK).scratch (a8e _ W.heap.size (tbV nt)) (Nat.le_refl _)
 have ek : tbV nt = ⟨4, nt, E0, by decide, WalkArith.wf_i64 (by omega), by decide⟩ := by unfold tbV; rw [dif_pos (by omega)]
 have gg : (w3.setCell ⟨p.B, 1, none⟩ (.slice (some ⟨g3, 0, none⟩) (nt + 1) cap3)).heap[W.heap.size]? = some (bx nilV) := (a0f _ _ (fun e => hne e)).trans g1'
 have gr := a0o (tbV nt) gg
 rw [ek] at gr hM2 hK2 ⊢
 exact bodyPost_ret (d2u (B := W.heap.size) (x := ⟨4, nt, E0, by decide, WalkArith.wf_i64 (by omega), by decide⟩) rfl rfl gr) rfl ⟨rfl, { p' with ap := p.ap }, e1, rfl, e3, e4, hM2, hK2⟩
end
theorem b7n {c : Value} (h : tm[8]?.getD undef = .pointer (some ⟨B, 0, none⟩)) (h3 : tm[9]?.getD undef = c) (hx : W.heap[B]? = some (bx x)) : (results Tryz.f57 tm).run Tryz.prog W = .ok (.tuple #[x.v, c]) W := by
 obtain ⟨d0, d1, d2, _, _, _⟩ := in3 hx
 simp [results, Tryz.results57, go_sem, h, h3, d0, d1, d2]
theorem a8p (h : Below m w V) (hB : m ≤ B) (x : Vl) : Below m w (put3 V B x) := ((h.setCell (p := ⟨B, 0, none⟩) hB _).setCell (p := ⟨B, 1, none⟩) hB _).setCell (p := ⟨B, 2, none⟩) hB _
theorem d2v (n : Int) (w : World) : Calls Tryz.prog 85 #[.int .i64 n] w fun e w' => e = .returned (val 2 n E0) ∧ Below w.heap.size w w' := (a7d n w).mono fun e w' ⟨h1, h2⟩ => ⟨h1, by rw [h2]; exact a0c (Below.refl _ _) _⟩
abbrev nV (n : Nat) (h : n ≤ 1000) : Vl := ⟨2, n, E0, by decide, WalkArith.wf_i64 (by omega), by decide⟩
theorem d4x (h : n ≤ 1000) : numV n = nV n h := by unfold numV; rw [dif_pos h]
theorem c7i (h : n ≤ 1000) : ∃ X : Vl, numV n = X ∧ ∀ w, Calls Tryz.prog 85 #[.int .i64 n] w fun e w' => e = .returned X.v ∧ Below w.heap.size w w' := ⟨_, d4x h, fun w => d2v n w⟩
structure AB (W : World) (v k : Vl) (u : World) : Prop where
 b : Below W.heap.size W u
 v : u.heap[W.heap.size]? = some (bx v)
 k : u.heap[W.heap.size + 1]? = some (bx k)
 r : u.heap[W.heap.size + 1 + 1]? = some (bx nilV)
theorem AB.on {v k : Vl} (h : AB W v k u) (hb : Below u.heap.size u u') : AB W v k u' := ⟨a0b h.b hb, a0j hb h.v, a0j hb h.k, a0j hb h.r⟩
theorem AB.new (W : World) (v k : Vl) : AB W v k (((W.alloc (bx v)).alloc (bx k)).alloc (.cells #[.int .i64 0, .int .i64 0, .string ⟨#[]⟩] 30)) :=
 ⟨a0c (a0c (a0c (Below.refl _ _) _) _) _, a0j (a0c (a0c (Below.refl _ _) _) _) (a0h _ _), a0j (a0c (Below.refl _ _) _) (by simpa using a0h (W.alloc _) _), by have := a0h ((W.alloc (bx v)).alloc (bx k)) (.cells #[.int .i64 0, .int .i64 0, .string ⟨#[]⟩] 30); rw [World.size_alloc, World.size_alloc] at this; exact this⟩
theorem c6e (xs ys : List Vl) : lenZ xs ys ≤ 1000 := by
 have key : ∀ (f n : Nat), lenG xs f n ≤ n + f := fun f => by
  induction f with
  | zero => intro n; simp [lenG]
  | succ f ih => intro n; rw [lenG]; split; have := ih (n + 1); omega; omega
 unfold lenZ
 split
 ·have := key 101 0; omega
 ·omega
section
variable {w0 : World} {p : Mp} {s : St} {W : World}
theorem b0d (B : Nat) (op : Int) (v k : Vl) (W : World) (h4 : (v.k != 4) = true) (h3 : (op == 6) = false ∨ (v.k == 3) = false) :
  Calls Tryz.prog 57 #[.pointer (some ⟨B, 0, none⟩), .int .i64 op, v.v, k.v] W fun e W' => e = .returned (.tuple #[nilV.v, .int .i64 3]) ∧ Below W.heap.size W W' := by
 have hA := AB.new W v k
 obtain ⟨w1, hw1⟩ := exq (((W.alloc (bx v)).alloc (bx k)).alloc (.cells #[.int .i64 0, .int .i64 0, .string ⟨#[]⟩] 30))
 rw [hw1] at hA
 obtain ⟨a0, a1, a2, _, _, _⟩ := in3 hA.v
 obtain ⟨c0, c1, c2, f0, f1, f2⟩ := in3 hA.r
 cases ho : (op == 6)
 ·clear h3
  go_enter Tryz.func57, Tryz.ntmps57
  go_wp2
  exact bodyPost_ret (b7n (B := W.heap.size + 1 + 1) (x := nilV) rfl rfl (a0o nilV hA.r)) rfl ⟨rfl, a8p hA.b (by omega) nilV⟩
 ·have h3 : (v.k == 3) = false := by rcases h3 with e | e; rw [ho] at e; cases e; exact e
  go_enter Tryz.func57, Tryz.ntmps57
  go_wp2
  exact bodyPost_ret (b7n (B := W.heap.size + 1 + 1) (x := nilV) rfl rfl (a0o nilV hA.r)) rfl ⟨rfl, a8p hA.b (by omega) nilV⟩
theorem c1u (B : Nat) (v k : Vl) (W : World) (h3 : (v.k == 3) = true) (hl : v.s.size ≤ 300) :
  Calls Tryz.prog 57 #[.pointer (some ⟨B, 0, none⟩), .int .i64 6, v.v, k.v] W fun e W' => e = .returned (.tuple #[(numV v.s.size).v, .int .i64 0]) ∧ Below W.heap.size W W' := by
 have hA := AB.new W v k
 obtain ⟨w1, hw1⟩ := exq (((W.alloc (bx v)).alloc (bx k)).alloc (.cells #[.int .i64 0, .int .i64 0, .string ⟨#[]⟩] 30))
 rw [hw1] at hA
 obtain ⟨a0, a1, a2, _, _, _⟩ := in3 hA.v
 have hl2 : v.s.size ≤ 1000 := by omega
 obtain ⟨X, hX, q1⟩ := c7i hl2
 rw [hX]
 clear hX
 replace q1 : Hid _ := q1
 go_enter Tryz.func57, Tryz.ntmps57
 go_wp2_with (go_at_call 85; refine (q1.out _).mono ?_; rintro e w2 ⟨rfl, hb2⟩; obtain ⟨c0, c1, c2, f0, f1, f2⟩ := in3 (hA.on hb2).r)
 exact bodyPost_ret (b7n (B := W.heap.size + 1 + 1) (x := X) rfl rfl (a0o X (hA.on hb2).r)) rfl ⟨rfl, a8p (hA.on hb2).b (by omega) _⟩
theorem c1v (h : Dc w0 p s W) (v k : Vl) (i : Nat) (hi : i < s.tb.length) (_hl : s.tb.length ≤ 200) (h4 : (v.k == 4) = true) (hv : v.n = i) (t : Tb) (ht : s.tb[i]? = some t) :
  Calls Tryz.prog 57 #[.pointer (some ⟨p.B, 0, none⟩), .int .i64 4, v.v, k.v] W fun e W' => e = .returned (.tuple #[(getT t.ks t.vs k).v, .int .i64 0]) ∧ Below W.heap.size W W' := by
 have hA := AB.new W v k
 obtain ⟨w1, hw1⟩ := exq (((W.alloc (bx v)).alloc (bx k)).alloc (.cells #[.int .i64 0, .int .i64 0, .string ⟨#[]⟩] 30))
 rw [hw1] at hA
 have h1 := h.on hA.b
 obtain ⟨q, hq, hqt, d0, d1, _⟩ := h1.tabCells ht
 obtain ⟨_, c1, _⟩ := h1.cells
 have hr := h1.tr q (List.mem_of_getElem? hq)
 rw [hqt] at hr
 have hT : ∀ u, Below w1.heap.size w1 u → Tab u.heap.size u q.a q.b t.ks t.vs := fun u hu => ⟨hr.1.row.at hu, hr.2.row.at hu⟩
 obtain ⟨qa, qc, ea, _⟩ := hr.1
 obtain ⟨qb, qd, eb, _⟩ := hr.2
 rw [ea, eb] at hT
 rw [ea] at d0
 rw [eb] at d1
 have hlB := h1.lt _ a1d
 have hlT := h1.lt _ a4d
 obtain ⟨nt, hnt⟩ := exq (s.tb.length)
 obtain ⟨kn, hkn⟩ := exq (t.ks.length)
 obtain ⟨vn, hvn⟩ := exq (t.vs.length)
 rw [hnt] at c1 hi _hl
 rw [hkn, hvn] at hT
 rw [hkn] at d0
 rw [hvn] at d1
 have q1 := fun u hu => c3n _ _ t.ks t.vs k u (hT u hu)
 obtain ⟨vk, hvk⟩ := exq (v.k)
 obtain ⟨a0, a1, a2, _, _, _⟩ := in3 hA.v
 obtain ⟨b0, b1, b2, _, _, _⟩ := in3 hA.k
 rw [hv] at a1
 have ne1 : ¬ w1.heap.size = p.B := by omega
 have ne2 : ¬ w1.heap.size = p.T := by omega
 have ne3 : ¬ w1.heap.size = W.heap.size := fun e => by have := a0n hA.v; omega
 have z3 : W.heap.size < w1.heap.size := a0n hA.v
 have h4' : (v.k != 4) = false := by rw [bne, h4]; rfl
 have h3' : (v.k == 3) = false := by simp at h4 ⊢; omega
 clear hv hvk vk hnt hkn hvn hr ea eb hT ht hq hqt
 replace q1 : Hid _ := q1
 obtain ⟨X, hX⟩ := exq (getT t.ks t.vs k)
 rw [hX] at q1 ⊢
 go_enter Tryz.func57, Tryz.ntmps57
 go_wp2
 go_region
 clear z3 ne1 ne2 ne3 a0 a1 a2 b0 b1 b2 c1 d0 d1
 obtain ⟨w2, hw2⟩ := exq ((w1.alloc (.cells #[.slice qa kn qc, .slice qb vn qd] 57)).drew)
 have E2 : Below w1.heap.size w1 w2 := by rw [← hw2]; exact a0i (a0c (Below.refl _ _) _)
 have g2 : w2.heap[w1.heap.size]? = some (.cells #[.slice qa kn qc, .slice qb vn qd] 57) := by rw [← hw2]; exact a0h _ _
 rw [hw2]
 clear hw2
 have t0 : w2.cell? ⟨w1.heap.size, 0, none⟩ = some (.slice qa kn qc) := a0a g2 rfl
 have t1 : w2.cell? ⟨w1.heap.size, 1, none⟩ = some (.slice qb vn qd) := a0a g2 rfl
 obtain ⟨b0, b1, b2, _, _, _⟩ := in3 (hA.on E2).k
 go_wp2_with (go_at_call 87; refine (q1.out _ E2).mono ?_; rintro e w3 ⟨rfl, hb3⟩; have E3 := a0b E2 hb3; obtain ⟨c0, c1, c2, f0, f1, f2⟩ := in3 (hA.on E3).r)
 exact bodyPost_ret (b7n (B := W.heap.size + 1 + 1) (x := X) rfl rfl (a0o X (hA.on E3).r)) rfl ⟨rfl, a8p (hA.on E3).b (by omega) _⟩
theorem b7o (h : Dc w0 p s W) (v k : Vl) (i : Nat) (hi : i < s.tb.length) (_hl : s.tb.length ≤ 200) (h4 : (v.k == 4) = true) (hv : v.n = i) (t : Tb) (ht : s.tb[i]? = some t) :
  Calls Tryz.prog 57 #[.pointer (some ⟨p.B, 0, none⟩), .int .i64 7, v.v, k.v] W fun e W' => e = .returned (.tuple #[(a3j t.ks t.vs k).1.v, .int .i64 (a3j t.ks t.vs k).2]) ∧ Below W.heap.size W W' := by
 have hA := AB.new W v k
 obtain ⟨w1, hw1⟩ := exq (((W.alloc (bx v)).alloc (bx k)).alloc (.cells #[.int .i64 0, .int .i64 0, .string ⟨#[]⟩] 30))
 rw [hw1] at hA
 have h1 := h.on hA.b
 obtain ⟨q, hq, hqt, d0, d1, _⟩ := h1.tabCells ht
 obtain ⟨_, c1, _⟩ := h1.cells
 have hr := h1.tr q (List.mem_of_getElem? hq)
 rw [hqt] at hr
 have hT : ∀ u, Below w1.heap.size w1 u → Tab u.heap.size u q.a q.b t.ks t.vs := fun u hu => ⟨hr.1.row.at hu, hr.2.row.at hu⟩
 obtain ⟨qa, qc, ea, _⟩ := hr.1
 obtain ⟨qb, qd, eb, _⟩ := hr.2
 rw [ea, eb] at hT
 rw [ea] at d0
 rw [eb] at d1
 have hlB := h1.lt _ a1d
 have hlT := h1.lt _ a4d
 obtain ⟨nt, hnt⟩ := exq (s.tb.length)
 obtain ⟨kn, hkn⟩ := exq (t.ks.length)
 obtain ⟨vn, hvn⟩ := exq (t.vs.length)
 rw [hnt] at c1 hi _hl
 rw [hkn, hvn] at hT
 rw [hkn] at d0
 rw [hvn] at d1
 have q1 := fun u hu => b9k _ _ t.ks t.vs k u (hT u hu)
 obtain ⟨vk, hvk⟩ := exq (v.k)
 obtain ⟨a0, a1, a2, _, _, _⟩ := in3 hA.v
 obtain ⟨b0, b1, b2, _, _, _⟩ := in3 hA.k
 rw [hv] at a1
 have ne1 : ¬ w1.heap.size = p.B := by omega
 have ne2 : ¬ w1.heap.size = p.T := by omega
 have ne3 : ¬ w1.heap.size = W.heap.size := fun e => by have := a0n hA.v; omega
 have z3 : W.heap.size < w1.heap.size := a0n hA.v
 have h4' : (v.k != 4) = false := by rw [bne, h4]; rfl
 have h3' : (v.k == 3) = false := by simp at h4 ⊢; omega
 clear hv hvk vk hnt hkn hvn hr ea eb hT ht hq hqt
 replace q1 : Hid _ := q1
 obtain ⟨X, hX⟩ := exq (a3j t.ks t.vs k)
 rw [hX] at q1 ⊢
 go_enter Tryz.func57, Tryz.ntmps57
 go_wp2
 go_region
 clear z3 ne1 ne2 ne3 a0 a1 a2 b0 b1 b2 c1 d0 d1
 obtain ⟨w2, hw2⟩ := exq ((w1.alloc (.cells #[.slice qa kn qc, .slice qb vn qd] 57)).drew)
 have E2 : Below w1.heap.size w1 w2 := by rw [← hw2]; exact a0i (a0c (Below.refl _ _) _)
 have g2 : w2.heap[w1.heap.size]? = some (.cells #[.slice qa kn qc, .slice qb vn qd] 57) := by rw [← hw2]; exact a0h _ _
 rw [hw2]
 clear hw2
 have t0 : w2.cell? ⟨w1.heap.size, 0, none⟩ = some (.slice qa kn qc) := a0a g2 rfl
 have t1 : w2.cell? ⟨w1.heap.size, 1, none⟩ = some (.slice qb vn qd) := a0a g2 rfl
 obtain ⟨b0, b1, b2, _, _, _⟩ := in3 (hA.on E2).k
 go_wp2_with (go_at_call 89; refine (q1.out _ E2).mono ?_; rintro e w3 ⟨rfl, hb3⟩; have E3 := a0b E2 hb3; obtain ⟨c0, c1, c2, f0, f1, f2⟩ := in3 (hA.on E3).r)
 exact bodyPost_ret (b7n (B := W.heap.size + 1 + 1) (x := X.1) rfl rfl (a0o X.1 (hA.on E3).r)) rfl ⟨rfl, a8p (hA.on E3).b (by omega) _⟩
theorem c1w (h : Dc w0 p s W) (v k : Vl) (i : Nat) (hi : i < s.tb.length) (_hl : s.tb.length ≤ 200) (h4 : (v.k == 4) = true) (hv : v.n = i) (t : Tb) (ht : s.tb[i]? = some t) :
  Calls Tryz.prog 57 #[.pointer (some ⟨p.B, 0, none⟩), .int .i64 6, v.v, k.v] W fun e W' => e = .returned (.tuple #[(numV (lenZ t.ks t.vs)).v, .int .i64 0]) ∧ Below W.heap.size W W' := by
 have hA := AB.new W v k
 obtain ⟨w1, hw1⟩ := exq (((W.alloc (bx v)).alloc (bx k)).alloc (.cells #[.int .i64 0, .int .i64 0, .string ⟨#[]⟩] 30))
 rw [hw1] at hA
 have h1 := h.on hA.b
 obtain ⟨q, hq, hqt, d0, d1, _⟩ := h1.tabCells ht
 obtain ⟨_, c1, _⟩ := h1.cells
 have hr := h1.tr q (List.mem_of_getElem? hq)
 rw [hqt] at hr
 have hT : ∀ u, Below w1.heap.size w1 u → Tab u.heap.size u q.a q.b t.ks t.vs := fun u hu => ⟨hr.1.row.at hu, hr.2.row.at hu⟩
 obtain ⟨qa, qc, ea, _⟩ := hr.1
 obtain ⟨qb, qd, eb, _⟩ := hr.2
 rw [ea, eb] at hT
 rw [ea] at d0
 rw [eb] at d1
 have hlB := h1.lt _ a1d
 have hlT := h1.lt _ a4d
 obtain ⟨nt, hnt⟩ := exq (s.tb.length)
 obtain ⟨kn, hkn⟩ := exq (t.ks.length)
 obtain ⟨vn, hvn⟩ := exq (t.vs.length)
 rw [hnt] at c1 hi _hl
 rw [hkn, hvn] at hT
 rw [hkn] at d0
 rw [hvn] at d1
 have q1 := fun u hu => c3x _ _ t.ks t.vs u (hT u hu)
 obtain ⟨vk, hvk⟩ := exq (v.k)
 obtain ⟨a0, a1, a2, _, _, _⟩ := in3 hA.v
 obtain ⟨b0, b1, b2, _, _, _⟩ := in3 hA.k
 rw [hv] at a1
 have ne1 : ¬ w1.heap.size = p.B := by omega
 have ne2 : ¬ w1.heap.size = p.T := by omega
 have ne3 : ¬ w1.heap.size = W.heap.size := fun e => by have := a0n hA.v; omega
 have z3 : W.heap.size < w1.heap.size := a0n hA.v
 have h4' : (v.k != 4) = false := by rw [bne, h4]; rfl
 have h3' : (v.k == 3) = false := by simp at h4 ⊢; omega
 clear hv hvk vk hnt hkn hvn hr ea eb hT ht hq hqt
 replace q1 : Hid _ := q1
 obtain ⟨n, hn, hle⟩ : ∃ n, lenZ t.ks t.vs = n ∧ n ≤ 1000 := ⟨_, rfl, c6e _ _⟩
 have q2 : ∀ u, Below w1.heap.size w1 u → Calls Tryz.prog 88 #[.agg #[.slice qa kn qc, .slice qb vn qd]] u fun e w' => e = .returned (.int .i64 n) ∧ Below u.heap.size u w' := fun u hu => (q1.out u hu).mono fun e w' ⟨⟨m, hm, he⟩, hb⟩ => ⟨by rw [he, c0u hm, hn], hb⟩
 obtain ⟨X, hX, q3⟩ := c7i hle
 rw [hn, hX]
 clear hn hX
 replace q2 : Hid _ := q2
 replace q3 : Hid _ := q3
 go_enter Tryz.func57, Tryz.ntmps57
 go_wp2
 go_region
 clear z3 ne1 ne2 ne3 a0 a1 a2 b0 b1 b2 c1 d0 d1
 obtain ⟨w2, hw2⟩ := exq ((w1.alloc (.cells #[.slice qa kn qc, .slice qb vn qd] 57)).drew)
 have E2 : Below w1.heap.size w1 w2 := by rw [← hw2]; exact a0i (a0c (Below.refl _ _) _)
 have g2 : w2.heap[w1.heap.size]? = some (.cells #[.slice qa kn qc, .slice qb vn qd] 57) := by rw [← hw2]; exact a0h _ _
 rw [hw2]
 clear hw2
 have t0 : w2.cell? ⟨w1.heap.size, 0, none⟩ = some (.slice qa kn qc) := a0a g2 rfl
 have t1 : w2.cell? ⟨w1.heap.size, 1, none⟩ = some (.slice qb vn qd) := a0a g2 rfl
 obtain ⟨b0, b1, b2, _, _, _⟩ := in3 (hA.on E2).k
 go_wp2_with (first | (go_at_call 88; refine (q2.out _ E2).mono ?_; rintro e w3 ⟨rfl, hb3⟩; have E3 := a0b E2 hb3) | (go_at_call 85; refine (q3.out _).mono ?_; rintro e w4 ⟨rfl, hb4⟩; have E4 := a0b E3 hb4; obtain ⟨c0, c1, c2, f0, f1, f2⟩ := in3 (hA.on E4).r))
 exact bodyPost_ret (b7n (B := W.heap.size + 1 + 1) (x := X) rfl rfl (a0o X (hA.on E4).r)) rfl ⟨rfl, a8p (hA.on E4).b (by omega) _⟩
end
theorem d0l (B : Nat) (v y z : Vl) (W : World) (h4 : (v.k != 4) = true) :
  Calls Tryz.prog 90 #[.pointer (some ⟨B, 0, none⟩), v.v, y.v, z.v] W fun e W' => e = .returned (.int .i64 3) ∧ Below W.heap.size W W' := by
 go_enter Tryz.func90, Tryz.ntmps90
 go_wp2
 go_ret
 exact ⟨rfl, a0c (a0c (a0c (Below.refl _ _) _) _) _⟩
theorem b1x (h : W.ownsRow base 30 3 v xs.length (flat xs)) (hO : ∀ b, v.ownBlock = some b → b ∉ O) : Rw W O v xs := by
 obtain ⟨a, cap, e, hl, hx⟩ := a9w (O := []) h (fun k hk => by cases hk)
 subst e
 refine ⟨a, cap, rfl, hl, fun hne => ?_⟩
 obtain ⟨b, off, ea, _, hb, hc⟩ := hx hne
 subst ea
 refine ⟨b, off, rfl, hO b rfl, hb, hc⟩
section
variable {w0 : World} {p : Mp} {s : St} {W : World}
def PutQ (w0 : World) (p : Mp) (s : St) (W : World) (i : Nat) (R : List (Vl × Vl) × Int) (e : Ending) (W' : World) : Prop :=
 e = .returned (.int .i64 R.2) ∧ ((¬ R.2 = 0 ∧ Below W.heap.size W W') ∨ (R.2 = 0 ∧ ∃ p', p'.B = p.B ∧ p'.ap = p.ap ∧ p'.fw = p.fw ∧ p'.F = p.F ∧ Dc w0 p' { s with tb := s.tb.set i ⟨keysOf R.1, a0q R.1⟩ } W' ∧ MK p.own W p'.own W'))
theorem d0m (h : Dc w0 p s W) (v y z : Vl) (i : Nat) (hi : i < s.tb.length) (hl : s.tb.length ≤ 200) (h4 : (v.k == 4) = true) (hv : v.n = i) (t : Tb) (ht : s.tb[i]? = some t) (q1 : ∀ (ks vs : Value) (u : World), Tab u.heap.size u ks vs t.ks t.vs → Calls Tryz.prog 106 #[.agg #[ks, vs], y.v, z.v] u fun e w' => ∃ a m c a' m' c', e = .returned (.tuple #[.agg #[.slice a m c, .slice a' m' c'], .int .i64 (setT t.ks t.vs y z).2]) ∧
   Own2 u.heap.size w' (.slice a m c) (.slice a' m' c') (keysOf (setT t.ks t.vs y z).1) (a0q (setT t.ks t.vs y z).1) ∧ Below u.heap.size u w') :
  Calls Tryz.prog 90 #[.pointer (some ⟨p.B, 0, none⟩), v.v, y.v, z.v] W (PutQ w0 p s W i (setT t.ks t.vs y z)) := by
 obtain ⟨w1, hw1⟩ := exq (((W.alloc (bx v)).alloc (bx y)).alloc (bx z))
 have E1 : Below W.heap.size W w1 := by rw [← hw1]; exact a0c (a0c (a0c (Below.refl _ _) _) _) _
 have g0 : w1.heap[W.heap.size]? = some (bx v) := by rw [← hw1]; exact a0j (a0c (a0c (Below.refl _ _) _) _) (a0h _ _)
 have g1 : w1.heap[W.heap.size + 1]? = some (bx y) := by rw [← hw1]; exact a0j (a0c (Below.refl _ _) _) (by simpa using a0h (W.alloc _) _)
 have g2 : w1.heap[W.heap.size + 1 + 1]? = some (bx z) := by
  have := a0h ((W.alloc (bx v)).alloc (bx y)) (bx z)
  rw [World.size_alloc, World.size_alloc, hw1] at this
  exact this
 have h1 := h.on E1
 obtain ⟨q, hq, hqt, d0, d1, _⟩ := h1.tabCells ht
 obtain ⟨_, c1, _⟩ := h1.cells
 have hr := h1.tr q (List.mem_of_getElem? hq)
 rw [hqt] at hr
 have hT : ∀ u, Below w1.heap.size w1 u → Calls Tryz.prog 106 #[.agg #[q.a, q.b], y.v, z.v] u _ := fun u hu => q1 q.a q.b u ⟨hr.1.row.at hu, hr.2.row.at hu⟩
 obtain ⟨qa, qc, ea, _⟩ := hr.1
 obtain ⟨qb, qd, eb, _⟩ := hr.2
 rw [ea, eb] at hT
 rw [ea] at d0
 rw [eb] at d1
 obtain ⟨nt, hnt⟩ := exq (s.tb.length)
 obtain ⟨kn, hkn⟩ := exq (t.ks.length)
 obtain ⟨vn, hvn⟩ := exq (t.vs.length)
 obtain ⟨Z, er, hR⟩ : ∃ Z er, setT t.ks t.vs y z = (Z, er) := ⟨_, _, rfl⟩
 rw [hR] at hT ⊢
 simp only at hT
 rw [hnt] at c1 hi hl
 rw [hkn, hvn] at hT
 rw [hkn] at d0
 rw [hvn] at d1
 obtain ⟨a0, a1, a2, _, _, _⟩ := in3 g0
 obtain ⟨b0, b1, b2, _, _, _⟩ := in3 g1
 obtain ⟨e0, e1, e2, _, _, _⟩ := in3 g2
 rw [hv] at a1
 have h4' : (v.k != 4) = false := by rw [bne, h4]; rfl
 have hS : ∀ u, Below w1.heap.size w1 u → u.cell? ⟨p.B, 1, none⟩ = some (.slice (some ⟨p.T, 0, none⟩) nt p.tc) ∧ u.cell? ⟨W.heap.size, 1, none⟩ = some (.int .i64 (i : Nat)) ∧ u.cell? ⟨p.T, i * 2, none⟩ = some (.slice qa kn qc) ∧ u.cell? ⟨p.T, i * 2 + 1, none⟩ = some (.slice qb vn qd) ∧ u.cell? ⟨W.heap.size + 1, 0, none⟩ = some (.int .i64 y.k) ∧ u.cell? ⟨W.heap.size + 1, 1, none⟩ = some (.int .i64 y.n) ∧ u.cell? ⟨W.heap.size + 1, 2, none⟩ = some (.string y.s) ∧ u.cell? ⟨W.heap.size + 1 + 1, 0, none⟩ = some (.int .i64 z.k) ∧ u.cell? ⟨W.heap.size + 1 + 1, 1, none⟩ = some (.int .i64 z.n) ∧ u.cell? ⟨W.heap.size + 1 + 1, 2, none⟩ = some (.string z.s) := fun u hb => ⟨a0l hb c1, a0l hb a1, a0l hb d0, a0l hb d1, a0l hb b0, a0l hb b1, a0l hb b2, a0l hb e0, a0l hb e1, a0l hb e2⟩
 have lB := h1.lt _ a1d
 have lT := h1.lt _ a4d
 have l2 := a0n g2
 have x0 : W.heap.size ≠ w1.heap.size := by omega
 have x1 : W.heap.size + 1 ≠ w1.heap.size := by omega
 have x2 : W.heap.size + 1 + 1 ≠ w1.heap.size := by omega
 have x3 : p.T ≠ w1.heap.size := by omega
 have x4 : p.B ≠ w1.heap.size := by omega
 replace hS : Hid _ := hS
 replace hT : Hid _ := hT
 replace hR : Hid _ := hR
 replace hnt : Hid _ := hnt
 clear hv hkn hvn hr ea eb ht hq hqt q1
 go_enter Tryz.func90, Tryz.ntmps90
 go_wp2
 go_region_held3 (fun u => u.cell? ⟨p.B, 1, none⟩ = some (.slice (some ⟨p.T, 0, none⟩) nt p.tc) ∧ u.cell? ⟨W.heap.size, 1, none⟩ = some (.int .i64 (i : Nat)) ∧ u.cell? ⟨p.T, i * 2, none⟩ = some (.slice qa kn qc) ∧ u.cell? ⟨p.T, i * 2 + 1, none⟩ = some (.slice qb vn qd) ∧ u.cell? ⟨W.heap.size + 1, 0, none⟩ = some (.int .i64 y.k) ∧ u.cell? ⟨W.heap.size + 1, 1, none⟩ = some (.int .i64 y.n) ∧ u.cell? ⟨W.heap.size + 1, 2, none⟩ = some (.string y.s) ∧ u.cell? ⟨W.heap.size + 1 + 1, 0, none⟩ = some (.int .i64 z.k) ∧ u.cell? ⟨W.heap.size + 1 + 1, 1, none⟩ = some (.int .i64 z.n) ∧ u.cell? ⟨W.heap.size + 1 + 1, 2, none⟩ = some (.string z.s)) (first | go_keep | with_reducible exact ⟨(k2 x4).trans s0, (k2 x0).trans s1, (k2 x3).trans s2, (k2 x3).trans s3, (k2 x1).trans s4, (k2 x1).trans s5, (k2 x1).trans s6, (k2 x2).trans s7, (k2 x2).trans s8, (k2 x2).trans s9⟩) (first | (go_at_call 106; refine (hT.out _ (by repeat (first | with_reducible exact (Below.refl _ _) | with_reducible refine a0i ?_ | with_reducible refine a0c ?_ _))).mono ?_; rintro e w3 ⟨a, m, c, a', m', c', rfl, ho, hb3⟩; have N3 := a0b (show Below w1.heap.size w1 _ from by repeat (first | with_reducible exact (Below.refl _ _) | with_reducible refine a0i ?_ | with_reducible refine a0c ?_ _)) hb3; (try (have gC : w3.heap[w1.drew.heap.size]? = some (.cells #[.slice none 0 0, .slice none 0 0] 57) := (by with_reducible exact a0d hb3 (a0h _ _)); replace gC : w3.heap[w1.heap.size]? = some (.cells #[.slice none 0 0, .slice none 0 0] 57) := gC; have m0 : w3.cell? ⟨w1.heap.size, 0, none⟩ = some (.slice none 0 0) := a0a gC rfl; have m1 : w3.cell? ⟨w1.heap.size, 1, none⟩ = some (.slice none 0 0) := a0a gC rfl; have n0 : w3.frozen? ⟨w1.heap.size, 0, none⟩ = false := a0e gC; have n1 : w3.frozen? ⟨w1.heap.size, 1, none⟩ = false := a0e gC)); obtain ⟨s0, s1, s2, s3, s4, s5, s6, s7, s8, s9⟩ := hS.out w3 N3))
 ·obtain ⟨X, hX⟩ := exq (w3.alloc (.cells #[.slice a m c, .slice a' m' c'] 57))
  have EX : Below w1.heap.size w1 X := by rw [← hX]; exact a0c N3 _
  have gK : X.heap[w3.heap.size]? = some (.cells #[.slice a m c, .slice a' m' c'] 57) := by rw [← hX]; exact a0h _ _
  have hO : Own2 w1.heap.size X (.slice a m c) (.slice a' m' c') (keysOf Z) (a0q Z) := by rw [← hX]; exact ho.kept (fun b hb => Below.heap_alloc _ _ _ (hb.elim (fun e => (a0z ho.k e).2.1) (fun e => (a0z ho.v e).2.1)))
  have n3 := N3.size
  have EX' := a0b E1 EX
  have lD : w1.heap.size ≤ w3.heap.size ∧ w3.heap.size < X.heap.size := ⟨by omega, a0n gK⟩
  rw [hX]
  clear hX
  cases hz : (er == 0)
  ·have hz' : ¬ er = 0 := by simpa using hz
   go_wp2
   go_ret
   exact ⟨rfl, .inl ⟨hz', EX'⟩⟩
  ·obtain rfl : er = 0 := by simpa using hz
   clear hz
   have gE := a0h X (.cells #[] 57)
   obtain ⟨Q, hQ⟩ := exq (X.heap.size)
   obtain ⟨U, hU⟩ := exq (X.alloc (.cells #[] 57))
   have hb2 : Below X.heap.size X U := by rw [← hU]; exact a0c (Below.refl _ _) _
   have hUs : U.heap.size = X.heap.size + 1 := by rw [← hU]; simp
   rw [hU, hQ] at gE
   have EU := a0b EX hb2
   have hu := h1.on EU
   have hx := h1.on EX
   obtain ⟨i0, hi0, hz0, hz1, hz2⟩ := a1h a9x
   have hsz := hu.bl.size
   have hbQ : w0.heap.size ≤ Q := by have := hx.bl.size; omega
   have hown : U.ownsRow w0.heap.size 57 2 (.slice (some ⟨Q, 0, none⟩) 0 0) 0 [] := a6j gE hbQ
   have hnews : ∀ j x, (a0m p.tw)[j]? = some x → U.cell? ((⟨p.T, 0, none⟩ : Addr).add j) = some x := fun j x hx => by
    rw [c6d]
    exact (hu.to.cell hx).1
   have hone : ∀ x ∈ a0m p.tw, x.oneCell' = true := fun x hx => by
    obtain ⟨q, hq, hx⟩ := List.mem_flatMap.1 hx
    obtain ⟨⟨a1, c1, e1, _⟩, ⟨a2, c2, e2, _⟩⟩ := hu.tr q hq
    simp at hx
    rcases hx with rfl | rfl
    ·rw [e1]; rfl
    ·rw [e2]; rfl
   have hlen : (a0m p.tw).length = nt * 2 := by rw [a3o, hu.len.2, hnt.out]
   have h63 : 0 + nt ≤ maxLen := by unfold maxLen; omega
   have hby : (0 + nt) * 48 ≤ 140737488355328 := by omega
   obtain ⟨c1', c2', c3', c4', _⟩ := hS.out U EU
   have j0 : X.cell? ⟨w3.heap.size, 0, none⟩ = some (.slice a m c) := a0a gK rfl
   go_wp2_with (at_builtin; refine a3p _ (by rfl) _ _ _ (by rfl) w0.heap.size 57 i0 _ 2 48 Tryz.underlying26 hi0 hz0 hz1 hz2 rfl (by omega) Q 0 0 _ (by rfl) hown ⟨p.T, 0, none⟩ nt p.tc (a0m p.tw) (by rfl) hlen hnews hone h63 hby hsz _ rfl ?_; intro g1 cap1 w4 hown1 hgrow hat hlt1; rw [Nat.zero_add] at hown1 ⊢; rw [List.nil_append] at hown1; refine Hid.out ?_)
   refine Lib.hid ?_
   clear c1' c2' c3' c4' j0 hU hown hnews hone hlen
   have nX : Below X.heap.size X w4 := hb2.trans (a5s hgrow hb2.size (by omega))
   have gX : X.heap.size ≤ g1 := by rcases hat with e | e <;> omega
   have N4 := a0b EX nX
   have h4 := h1.on N4
   obtain ⟨_, i1, _⟩ := hS.out w4 N4
   have gD := a0j nX gK
   have r0 : w4.cell? ⟨w3.heap.size, 0, none⟩ = some (.slice a m c) := a0a gD rfl
   have r1 : w4.cell? ⟨w3.heap.size, 1, none⟩ = some (.slice a' m' c') := a0a gD rfl
   have ho1 := (OwnR.of hown1).1
   have lT : i * 2 + 1 < (a0m p.tw).length := by rw [a3o, hu.len.2, hnt.out]; omega
   obtain ⟨y0, hy0⟩ : ∃ x, (a0m p.tw)[i * 2]? = some x := ⟨_, List.getElem?_eq_getElem (by omega)⟩
   obtain ⟨y1, hy1⟩ : ∃ x, (a0m p.tw)[i * 2 + 1]? = some x := ⟨_, List.getElem?_eq_getElem lT⟩
   obtain ⟨v00, v01⟩ := ho1.cell hy0
   obtain ⟨v10, v11⟩ := ho1.cell hy1
   clear hy0 hy1 lT
   have nD0 : ¬ w3.heap.size = g1 := by omega
   have nD1 : ¬ W.heap.size = g1 := by omega
   have nD2 : ¬ p.B = g1 := by omega
   obtain ⟨_, k1, _, _, _, _, _, _, _, fz⟩ := h4.cells
   have fz1 := fz 1
   clear fz
   go_wp2
   go_ret
   refine ⟨rfl, .inr ⟨rfl, ?_⟩⟩
   obtain ⟨Y, hY⟩ := exq ((w4.setCell ⟨g1, i * 2, none⟩ (.slice a m c)).setCell ⟨g1, i * 2 + 1, none⟩ (.slice a' m' c'))
   have nY : Below X.heap.size X Y := by rw [← hY]; exact (nX.setCell (p := ⟨g1, i * 2, none⟩) gX _).setCell (p := ⟨g1, i * 2 + 1, none⟩) gX _
   have oY : OwnR Y g1 57 2 (p.tw.set i ⟨⟨keysOf Z, a0q Z⟩, .slice a m c, .slice a' m' c'⟩).length cap1 (a0m (p.tw.set i ⟨⟨keysOf Z, a0q Z⟩, .slice a m c, .slice a' m' c'⟩)) := by
    have := (ho1.set (i * 2) (.slice a m c)).set (i * 2 + 1) (.slice a' m' c')
    rw [hY] at this
    rw [List.length_set, hu.len.2, hnt.out, a6t]
    exact this
   have hOY : Own2 w1.heap.size Y (.slice a m c) (.slice a' m' c') (keysOf Z) (a0q Z) := hO.kept (fun b hb => nY.block b (hb.elim (fun e => (a0z hO.k e).2.1) (fun e => (a0z hO.v e).2.1)))
   obtain ⟨p', q1, q2, q3, q4, hM, hK⟩ := h1.newT (a0b EX nY) (by omega) oY (fun z hz => by
    rcases List.mem_or_eq_of_mem_set hz with hz | hz
    ·exact .inl hz
    ·subst hz
     refine .inr fun O hOO => ⟨b1x hOY.k (fun b hb hbO => ?_), b1x hOY.v (fun b hb hbO => ?_)⟩
     ·have e1 := (a0z hO.k hb)
      rcases hOO b hbO with e | e <;> omega
     ·have e1 := (a0z hO.v hb)
      rcases hOO b hbO with e | e <;> omega)
   have el : (p.tw.set i (⟨⟨keysOf Z, a0q Z⟩, .slice a m c, .slice a' m' c'⟩ : Tw)).length = nt := by rw [List.length_set, hu.len.2, hnt.out]
   have em : (p.tw.set i (⟨⟨keysOf Z, a0q Z⟩, .slice a m c, .slice a' m' c'⟩ : Tw)).map Tw.t = s.tb.set i ⟨keysOf Z, a0q Z⟩ := by rw [List.map_set, hu.ht]
   rw [el, em] at hM
   rw [el] at hK
   rw [hY]
   exact ⟨p', q1, q2, q3, q4, hM, (MK.below E1).trans hK⟩
 ·obtain ⟨X, hX⟩ := exq ((w3.setCell ⟨w1.heap.size, 0, none⟩ (.slice a m c)).setCell ⟨w1.heap.size, 1, none⟩ (.slice a' m' c'))
  have EX : Below w1.heap.size w1 X := by rw [← hX]; exact a1g _ _ N3 (Nat.le_refl _)
  have gK : X.heap[w1.heap.size]? = some (.cells #[.slice a m c, .slice a' m' c'] 57) := by rw [← hX]; exact a1t gC
  have hO : Own2 w1.heap.size X (.slice a m c) (.slice a' m' c') (keysOf Z) (a0q Z) := by rw [← hX]; exact (Own2.weak ho (by show w1.heap.size ≤ (w1.alloc _).heap.size; rw [World.size_alloc]; omega)).kept (fun b hb => a2h _ _ _ (fun e => by have := hb.elim (fun e => (a0z ho.k e).1) (fun e => (a0z ho.v e).1); replace this : (w1.alloc (.cells #[.slice none 0 0, .slice none 0 0] 57)).heap.size ≤ b := this; rw [World.size_alloc] at this; omega))
  have EX' := a0b E1 EX
  have lD : w1.heap.size ≤ w1.heap.size ∧ w1.heap.size < X.heap.size := ⟨by omega, a0n gK⟩
  rw [hX]
  clear hX
  cases hz : (er == 0)
  ·have hz' : ¬ er = 0 := by simpa using hz
   go_wp2
   go_ret
   exact ⟨rfl, .inl ⟨hz', EX'⟩⟩
  ·obtain rfl : er = 0 := by simpa using hz
   clear hz
   have gE := a0h X (.cells #[] 57)
   obtain ⟨Q, hQ⟩ := exq (X.heap.size)
   obtain ⟨U, hU⟩ := exq (X.alloc (.cells #[] 57))
   have hb2 : Below X.heap.size X U := by rw [← hU]; exact a0c (Below.refl _ _) _
   have hUs : U.heap.size = X.heap.size + 1 := by rw [← hU]; simp
   rw [hU, hQ] at gE
   have EU := a0b EX hb2
   have hu := h1.on EU
   have hx := h1.on EX
   obtain ⟨i0, hi0, hz0, hz1, hz2⟩ := a1h a9x
   have hsz := hu.bl.size
   have hbQ : w0.heap.size ≤ Q := by have := hx.bl.size; omega
   have hown : U.ownsRow w0.heap.size 57 2 (.slice (some ⟨Q, 0, none⟩) 0 0) 0 [] := a6j gE hbQ
   have hnews : ∀ j x, (a0m p.tw)[j]? = some x → U.cell? ((⟨p.T, 0, none⟩ : Addr).add j) = some x := fun j x hx => by
    rw [c6d]
    exact (hu.to.cell hx).1
   have hone : ∀ x ∈ a0m p.tw, x.oneCell' = true := fun x hx => by
    obtain ⟨q, hq, hx⟩ := List.mem_flatMap.1 hx
    obtain ⟨⟨a1, c1, e1, _⟩, ⟨a2, c2, e2, _⟩⟩ := hu.tr q hq
    simp at hx
    rcases hx with rfl | rfl
    ·rw [e1]; rfl
    ·rw [e2]; rfl
   have hlen : (a0m p.tw).length = nt * 2 := by rw [a3o, hu.len.2, hnt.out]
   have h63 : 0 + nt ≤ maxLen := by unfold maxLen; omega
   have hby : (0 + nt) * 48 ≤ 140737488355328 := by omega
   obtain ⟨c1', c2', c3', c4', _⟩ := hS.out U EU
   have j0 : X.cell? ⟨w1.heap.size, 0, none⟩ = some (.slice a m c) := a0a gK rfl
   go_wp2_with (at_builtin; refine a3p _ (by rfl) _ _ _ (by rfl) w0.heap.size 57 i0 _ 2 48 Tryz.underlying26 hi0 hz0 hz1 hz2 rfl (by omega) Q 0 0 _ (by rfl) hown ⟨p.T, 0, none⟩ nt p.tc (a0m p.tw) (by rfl) hlen hnews hone h63 hby hsz _ rfl ?_; intro g1 cap1 w4 hown1 hgrow hat hlt1; rw [Nat.zero_add] at hown1 ⊢; rw [List.nil_append] at hown1; refine Hid.out ?_)
   refine Lib.hid ?_
   clear c1' c2' c3' c4' j0 hU hown hnews hone hlen
   have nX : Below X.heap.size X w4 := hb2.trans (a5s hgrow hb2.size (by omega))
   have gX : X.heap.size ≤ g1 := by rcases hat with e | e <;> omega
   have N4 := a0b EX nX
   have h4 := h1.on N4
   obtain ⟨_, i1, _⟩ := hS.out w4 N4
   have gD := a0j nX gK
   have r0 : w4.cell? ⟨w1.heap.size, 0, none⟩ = some (.slice a m c) := a0a gD rfl
   have r1 : w4.cell? ⟨w1.heap.size, 1, none⟩ = some (.slice a' m' c') := a0a gD rfl
   have ho1 := (OwnR.of hown1).1
   have lT : i * 2 + 1 < (a0m p.tw).length := by rw [a3o, hu.len.2, hnt.out]; omega
   obtain ⟨y0, hy0⟩ : ∃ x, (a0m p.tw)[i * 2]? = some x := ⟨_, List.getElem?_eq_getElem (by omega)⟩
   obtain ⟨y1, hy1⟩ : ∃ x, (a0m p.tw)[i * 2 + 1]? = some x := ⟨_, List.getElem?_eq_getElem lT⟩
   obtain ⟨v00, v01⟩ := ho1.cell hy0
   obtain ⟨v10, v11⟩ := ho1.cell hy1
   clear hy0 hy1 lT
   have nD0 : ¬ w1.heap.size = g1 := by omega
   have nD1 : ¬ W.heap.size = g1 := by omega
   have nD2 : ¬ p.B = g1 := by omega
   obtain ⟨_, k1, _, _, _, _, _, _, _, fz⟩ := h4.cells
   have fz1 := fz 1
   clear fz
   go_wp2
   go_ret
   refine ⟨rfl, .inr ⟨rfl, ?_⟩⟩
   obtain ⟨Y, hY⟩ := exq ((w4.setCell ⟨g1, i * 2, none⟩ (.slice a m c)).setCell ⟨g1, i * 2 + 1, none⟩ (.slice a' m' c'))
   have nY : Below X.heap.size X Y := by rw [← hY]; exact (nX.setCell (p := ⟨g1, i * 2, none⟩) gX _).setCell (p := ⟨g1, i * 2 + 1, none⟩) gX _
   have oY : OwnR Y g1 57 2 (p.tw.set i ⟨⟨keysOf Z, a0q Z⟩, .slice a m c, .slice a' m' c'⟩).length cap1 (a0m (p.tw.set i ⟨⟨keysOf Z, a0q Z⟩, .slice a m c, .slice a' m' c'⟩)) := by
    have := (ho1.set (i * 2) (.slice a m c)).set (i * 2 + 1) (.slice a' m' c')
    rw [hY] at this
    rw [List.length_set, hu.len.2, hnt.out, a6t]
    exact this
   have hOY : Own2 w1.heap.size Y (.slice a m c) (.slice a' m' c') (keysOf Z) (a0q Z) := hO.kept (fun b hb => nY.block b (hb.elim (fun e => (a0z hO.k e).2.1) (fun e => (a0z hO.v e).2.1)))
   obtain ⟨p', q1, q2, q3, q4, hM, hK⟩ := h1.newT (a0b EX nY) (by omega) oY (fun z hz => by
    rcases List.mem_or_eq_of_mem_set hz with hz | hz
    ·exact .inl hz
    ·subst hz
     refine .inr fun O hOO => ⟨b1x hOY.k (fun b hb hbO => ?_), b1x hOY.v (fun b hb hbO => ?_)⟩
     ·have e1 := (a0z hO.k hb)
      rcases hOO b hbO with e | e <;> omega
     ·have e1 := (a0z hO.v hb)
      rcases hOO b hbO with e | e <;> omega)
   have el : (p.tw.set i (⟨⟨keysOf Z, a0q Z⟩, .slice a m c, .slice a' m' c'⟩ : Tw)).length = nt := by rw [List.length_set, hu.len.2, hnt.out]
   have em : (p.tw.set i (⟨⟨keysOf Z, a0q Z⟩, .slice a m c, .slice a' m' c'⟩ : Tw)).map Tw.t = s.tb.set i ⟨keysOf Z, a0q Z⟩ := by rw [List.map_set, hu.ht]
   rw [el, em] at hM
   rw [el] at hK
   rw [hY]
   exact ⟨p', q1, q2, q3, q4, hM, (MK.below E1).trans hK⟩
end
structure OB (W : World) (cv : Value) (mn : Int) (o : Od) (u : World) : Prop where
 b : Below W.heap.size W u
 c : u.heap[W.heap.size]? = some (.cells #[cv, .int .i64 mn] 24)
 o : u.heap[W.heap.size + 1]? = some (.cells #[.int .i64 o.op, .int .i64 o.a, .int .i64 o.b, .int .i64 o.c] 82)
theorem OB.on {cv : Value} {o : Od} (h : OB W cv mn o u) (hb : Below u.heap.size u u') : OB W cv mn o u' := ⟨a0b h.b hb, a0j hb h.c, a0j hb h.o⟩
theorem OB.new (W : World) (cv : Value) (mn : Int) (o : Od) : OB W cv mn o ((W.alloc (.cells #[cv, .int .i64 mn] 24)).alloc (.cells #[.int .i64 o.op, .int .i64 o.a, .int .i64 o.b, .int .i64 o.c] 82)) :=
 ⟨a0c (a0c (Below.refl _ _) _) _, a0j (a0c (Below.refl _ _) _) (a0h _ _), by simpa using a0h (W.alloc _) _⟩
section
variable {w0 : World} {p : Mp} {s : St} {W : World}
theorem c6f (h : Dc w0 p s W) (e : p.fw = l ++ [q]) (hl : l.length ≤ 1000) (ca : Option Addr) (cn cc : Nat) (mn nx : Int) (o : Od) (ho : o.op = 8 ∨ o.op = 10) :
  Calls Tryz.prog 58 #[PV ca cn cc mn, .pointer (some ⟨p.B, 0, none⟩), o.v, .int .i64 nx] W fun E W' => E = .returned (.tuple #[.int .i64 o.a, .int .i64 0]) ∧ Below W.heap.size W W' := by
 have hA := OB.new W (.slice ca cn cc) mn o
 obtain ⟨w1, hw1⟩ := exq ((W.alloc (.cells #[.slice ca cn cc, .int .i64 mn] 24)).alloc (.cells #[.int .i64 o.op, .int .i64 o.a, .int .i64 o.b, .int .i64 o.c] 82))
 rw [hw1] at hA
 have h1 := h.on hA.b
 obtain ⟨c0, _⟩ := h1.cells
 have hlen := h1.len.1
 rw [e, List.length_append, List.length_singleton] at hlen
 rw [← hlen] at c0
 obtain ⟨k, hk⟩ := exq (l.length)
 rw [hk] at c0 hl
 obtain ⟨b0, b1, b2, b3⟩ := four hA.o
 have h5 : (o.op == 5) = false := by rcases ho with e | e <;> (rw [e]; rfl)
 clear hlen hk e
 cases h8 : (o.op == 8)
 ·have h10 : (o.op == 10) = true := by rcases ho with e | e; (rw [e] at h8; cases h8); (rw [e]; rfl)
  clear ho
  go_enter Tryz.func58, Tryz.ntmps58
  go_wp2
  go_ret2
  exact ⟨rfl, hA.b⟩
 ·clear ho
  go_enter Tryz.func58, Tryz.ntmps58
  go_wp2
  go_ret2
  exact ⟨rfl, hA.b⟩
theorem c6g (h : Dc w0 p s W) (e : p.fw = l ++ [q]) (hl : l.length ≤ 1000) (ca : Option Addr) (cn cc : Nat) (mn nx : Int) (o : Od) (ho : o.op = 9) (ra : Nat) (hra : o.a = ra) (v : Vl) (hv : q.x.rs[ra]? = some v) :
  Calls Tryz.prog 58 #[PV ca cn cc mn, .pointer (some ⟨p.B, 0, none⟩), o.v, .int .i64 nx] W fun E W' => E = .returned (.tuple #[.int .i64 (if truthB v.k v.n v.s = true then nx else o.b), .int .i64 0]) ∧ Below W.heap.size W W' := by
 have hA := OB.new W (.slice ca cn cc) mn o
 obtain ⟨w1, hw1⟩ := exq ((W.alloc (.cells #[.slice ca cn cc, .int .i64 mn] 24)).alloc (.cells #[.int .i64 o.op, .int .i64 o.a, .int .i64 o.b, .int .i64 o.c] 82))
 rw [hw1] at hA
 have h1 := h.on hA.b
 obtain ⟨c0, _⟩ := h1.cells
 obtain ⟨_, _, _, t3, _⟩ := h1.topCells e
 have hq : q ∈ p.fw := by rw [e]; simp
 obtain ⟨y0, y1, y2⟩ := a2k hv
 have hrg := h1.rg q hq
 have r0 := (hrg.cell y0).1
 have r1 := (hrg.cell y1).1
 have r2 := (hrg.cell y2).1
 have hlen := h1.len.1
 rw [e, List.length_append, List.length_singleton] at hlen
 rw [← hlen] at c0
 obtain ⟨k, hk⟩ := exq (l.length)
 obtain ⟨rn, hrn⟩ := exq (q.x.rs.length)
 have hlt : ra < rn := by rw [← hrn]; exact (List.getElem?_eq_some_iff.1 hv).1
 have hrm : rn ≤ 9223372036854775807 := by rw [← hrn]; exact a3f hrg.max
 rw [hk] at c0 t3 hl
 rw [hrn] at t3
 obtain ⟨b0, b1, b2, b3⟩ := four hA.o
 rw [hra] at b1
 have hS : ∀ u, Below w1.heap.size w1 u → u.cell? ⟨p.F, k * 4 + 3, none⟩ = some (.slice (some ⟨q.g, 0, none⟩) rn q.c) ∧ u.cell? ⟨W.heap.size + 1, 1, none⟩ = some (.int .i64 (ra : Nat)) ∧ u.cell? ⟨q.g, ra * 3, none⟩ = some (.int .i64 v.k) ∧ u.cell? ⟨q.g, ra * 3 + 1, none⟩ = some (.int .i64 v.n) ∧ u.cell? ⟨q.g, ra * 3 + 2, none⟩ = some (.string v.s) := fun u hu => ⟨a0l hu t3, a0l hu b1, a0l hu r0, a0l hu r1, a0l hu r2⟩
 have q1 := fun w => a8i v.k v.n v.s w (wf64 v.wn).1 (wf64 v.wn).2
 have h5 : (o.op == 5) = false := by rw [ho]; rfl
 have h8 : (o.op == 8) = false := by rw [ho]; rfl
 have h10 : (o.op == 10) = false := by rw [ho]; rfl
 have h9 : (o.op == 9) = true := by rw [ho]; rfl
 clear hlen hk hrn e ho hra hv y0 y1 y2 hrg
 replace hS : Hid _ := hS
 obtain ⟨T, hT⟩ := exq (truthB v.k v.n v.s)
 rw [hT] at q1 ⊢
 clear hT
 replace q1 : Hid _ := q1
 cases T
 all_goals
  go_enter Tryz.func58, Tryz.ntmps58
  go_wp2
  refine a1e (Below w1.heap.size w1) (by kernel_rfl) (by kernel_rfl) (Below.refl _ _).drew ?_
  repeat (first
   | go_big_quiet_skip
   | (
    apply a0t
    ·kernel_rfl
    ·intro u hu
     obtain ⟨_, _, _, _, _⟩ := hS.out u hu
     go_simp
     first | (go_at_call 82; refine (q1.out u).mono ?_; rintro e w2 ⟨rfl, hb2⟩; exact ⟨rfl, a0b hu hb2⟩) | with_reducible rfl | skip
    simp only [Act.put, List.setIfInBounds_toArray, List.set_cons_zero, List.set_cons_succ]))
  refine wpQuiet_nil (fun w2 hb2 => ?_)
  obtain ⟨b0, b1, b2, b3⟩ := four (hA.on hb2).o
  go_wp2
  go_ret2
  exact ⟨rfl, (hA.on hb2).b⟩
end
end
end Go.Proofs.YthpgbienakcbeaaGreatDoor
