/- Of programs, in plain words: what is written has just the tokens that were to be written. Of programs, in plain words: what is read is a node of a program, and is written no longer than it was. Of programs, in plain words: what is read is a node of a program, and is written no longer than it was: the readings. -/
import Derived.Test.YtbdkiimggggndaaGreatDoorJ06
import Derived.Test.YtbdkiimggggndaaGreatDoorJ04
namespace Go.Proofs.YtbdkiimggggndaaGreatDoor
open Go

def bytesOf (p : PT) : List UInt8 := if p.1 = 3 then 34 :: (p.2 ++ [34]) else p.2
/-- Tokens, with a blank between two. -/
def textT : List PT → List UInt8
  | [] => []
  | [p] => bytesOf p
  | p :: q :: l => bytesOf p ++ 32 :: textT (q :: l)
/-- It is read as the token that it is. -/
def valid (p : PT) : Prop := tokR (bytesOf p) = .tok p.1 p.2 (bytesOf p).length ∧ gap1 (bytesOf p) = 0

theorem valid_ne {p : PT} (h : valid p) : bytesOf p ≠ [] := fun e => by
  have := tok_size h.1
  rw [e] at this
  simp at this
theorem scan_text : ∀ (ts : List PT) (a : Nat), (∀ p ∈ ts, valid p) → ∃ us, scanR a (textT ts) = .toks us ∧ us.map (fun t => (t.k, t.t)) = ts
  | [], a, _ => ⟨[], rfl, rfl⟩
  | [p], a, h => by
    have hp := h p (by simp)
    refine ⟨[⟨p.1, p.2, a⟩], ?_, rfl⟩
    rw [textT, scanR_tok (valid_ne hp) hp.2 hp.1, List.drop_length, scanR_nil]
    rfl
  | p :: q :: l, a, h => by
    have hp := h p (by simp)
    obtain ⟨us, h1, h2⟩ := scan_text (q :: l) (a + (bytesOf p).length + 1) (fun z hz => h z (by simp at hz ⊢; exact .inr hz))
    have t1 := (tok_again hp.1 (textT (q :: l))).1
    have t2 := gap_again hp.2 hp.1 (textT (q :: l))
    rw [List.take_length] at t1 t2
    refine ⟨⟨p.1, p.2, a⟩ :: us, ?_, by simp [h2]⟩
    rw [textT, scanR_tok (by simp) t2 t1]
    have hd : (bytesOf p ++ 32 :: textT (q :: l)).drop (bytesOf p).length = 32 :: textT (q :: l) := by simp
    have hg : gap1 (32 :: textT (q :: l)) = 1 := by simp [gap1]
    rw [hd, scanR_gap (by rw [hg]; omega), hg, List.drop_succ_cons, List.drop_zero, h1]
    rfl

theorem runN_full {p : UInt8 → Bool} {l : List UInt8} (h : l.all p = true) : runN p l = l.length :=
  runN_eq p l l.length (Nat.le_refl _) (fun i c _ hc => (List.all_eq_true.1 h) c (List.mem_of_getElem? hc)) (fun c hc => by rw [List.getElem?_eq_none (Nat.le_refl _)] at hc; cases hc)

theorem valid_name {s : List UInt8} (h : nameB s = true) : valid (wt s) := by
  simp only [nameB, Bool.and_eq_true, decide_eq_true_eq] at h
  obtain ⟨⟨⟨⟨h1, h2⟩, h3⟩, h4⟩, _⟩ := h
  have hb : bytesOf (wt s) = s := by unfold bytesOf; rw [if_neg (by show ¬ (1 : Int) = 3; decide)]
  unfold valid
  rw [hb]
  cases s with
  | nil => simp at h1
  | cons c r =>
    have hc : letB c = true := h3
    have hn : 65 ≤ c.toNat := by simp [letB] at hc; omega
    refine ⟨?_, ?_⟩
    · unfold tokR
      simp only
      rw [if_pos hc, runN_full h4, if_neg (by omega), List.take_length]
    · unfold gap1
      simp only
      rw [if_neg (by omega), if_neg (by omega)]

theorem dec_digits : ∀ (m u : Nat), u < m → (Lib.decDigits u).all digB = true ∧ Lib.decDigits u ≠ [] ∧ (1 < (Lib.decDigits u).length → (Lib.decDigits u).head? ≠ some 48)
  | 0, u, h => by omega
  | m + 1, u, h => by
    have hd : ∀ v, v < 10 → digB (UInt8.ofNat (48 + v)) = true := fun v hv => by
      have : (UInt8.ofNat (48 + v)).toNat = 48 + v := UInt8.toNat_ofNat_of_lt' (by show 48 + v < 256; omega)
      simp only [digB, this, Bool.and_eq_true, decide_eq_true_eq]
      omega
    rw [Lib.decDigits]
    by_cases hu : u < 10
    · rw [dif_pos hu]
      exact ⟨by simp only [List.all_cons, List.all_nil, Bool.and_true]; exact hd u hu, by simp, fun h => by simp at h⟩
    · rw [dif_neg hu]
      obtain ⟨h1, h2, h3⟩ := dec_digits m (u / 10) (by omega)
      refine ⟨by simp only [List.all_append, h1, List.all_cons, List.all_nil, Bool.and_true, Bool.true_and]; exact hd _ (by omega), by simp, fun _ => ?_⟩
      have hv := numV_dec (u / 10 + 1) (u / 10) (by omega)
      cases he : Lib.decDigits (u / 10) with
      | nil => exact absurd he h2
      | cons c r =>
        rw [he] at h3 hv
        simp only [List.cons_append, List.head?_cons]
        intro e
        by_cases hr : r = []
        · subst hr
          injection e with e
          subst e
          simp [numV] at hv
          omega
        · exact h3 (by have := List.length_pos_iff.2 hr; simp; omega) (by simpa using e)

theorem valid_num {u : Nat} (h : u ≤ 9223372036854775807) : valid (2, digitsN u) := by
  obtain ⟨h1, h2, h3⟩ := dec_digits (u + 1) u (by omega)
  have hv := numV_dec (u + 1) u (by omega)
  unfold digitsN
  have hb : bytesOf (2, Lib.decDigits u) = Lib.decDigits u := by unfold bytesOf; rw [if_neg (by show ¬ (2 : Int) = 3; decide)]
  unfold valid
  rw [hb]
  have hrow : (Lib.decDigits u).all rowB = true := by
    rw [List.all_eq_true] at h1 ⊢
    intro c hc
    simp [rowB, h1 c hc]
  cases he : Lib.decDigits u with
  | nil => exact absurd he h2
  | cons c r =>
    rw [he] at h1 h3 hv hrow
    have hc := dig_lt (by simp only [List.all_cons, Bool.and_eq_true] at h1; exact h1.1)
    have hl : letB c = false := by simp [letB]; omega
    have hd : digB c = true := by simp [digB]; omega
    have hE : numE (c :: r) = 0 := by
      unfold numE
      rw [h1, if_neg (by simp), if_neg (fun h => h3 h.1 h.2), if_neg (by omega)]
    refine ⟨?_, ?_⟩
    · unfold tokR
      simp only
      rw [if_neg (by simp [hl]), if_pos hd, runN_full hrow, List.take_length, if_pos hE]
    · unfold gap1
      simp only
      rw [if_neg (by omega), if_neg (by omega)]

theorem valid_text {t : List UInt8} (h : quotB t = true) : valid (3, t) := by
  simp only [quotB, Bool.and_eq_true, decide_eq_true_eq] at h
  have hb : bytesOf (3, t) = 34 :: (t ++ [34]) := by unfold bytesOf; rw [if_pos rfl]
  unfold valid
  rw [hb]
  have hr : runN txtB (t ++ [34]) = t.length := by
    refine runN_eq txtB _ _ (by simp) (fun i c hi hc => ?_) (fun c hc => ?_)
    · rw [List.getElem?_append_left hi] at hc
      exact (List.all_eq_true.1 h.1) c (List.mem_of_getElem? hc)
    · rw [List.getElem?_append_right (Nat.le_refl _)] at hc
      simp at hc
      subst hc
      decide
  refine ⟨?_, by simp [gap1]⟩
  unfold tokR
  simp only
  rw [if_neg (by decide), if_neg (by decide), if_pos (by decide), hr, if_pos (by simp), if_neg (by omega)]
  simp

theorem valid_op {o : Int} (h : (opOf o).isSome = true) : valid (opT o) := by
  cases hq : opOf o with
  | none => rw [hq] at h; cases h
  | some p =>
    obtain ⟨s, k⟩ := p
    have hm := op_mem hq
    have : ∀ p ∈ opsL, valid ((if p.2.1 = 20 ∨ p.2.1 = 21 then 1 else 4), p.1) := by
      unfold valid
      decide
    have := this _ hm
    unfold opT
    rw [hq]
    exact this

def allV (ts : List PT) : Prop := ∀ p ∈ ts, valid p
theorem allV_app {a b : List PT} (ha : allV a) (hb : allV b) : allV (a ++ b) := fun p hp => (List.mem_append.1 hp).elim (ha p) (hb p)
theorem allV_cons {p : PT} {l : List PT} (hp : valid p) (hl : allV l) : allV (p :: l) := fun q hq => by
  simp at hq
  rcases hq with rfl | hq
  · exact hp
  · exact hl q hq
theorem allV_nil : allV [] := fun p hp => by simp at hp
theorem allV_par {l : List PT} (h : allV l) : allV (parT l) := allV_cons (by unfold valid; decide) (allV_app h (allV_cons (by unfold valid; decide) allV_nil))
theorem allV_at {x : Nd} (h : allV (showT x)) (n : Nat) : allV (atT n (info x)) := by
  unfold atT info
  simp only
  split
  · exact allV_par h
  · exact h
theorem allV_comma : ∀ {l : List Nd}, (∀ x ∈ l, allV (showT x)) → allV (commaT (l.map info))
  | [], _ => allV_nil
  | [x], h => h x (by simp)
  | x :: y :: l, h => by
    have ih := allV_comma (l := y :: l) (fun z hz => h z (by simp at hz ⊢; exact .inr hz))
    have e : commaT ((x :: y :: l).map info) = showT x ++ st S.cm :: commaT ((y :: l).map info) := by simp [commaT, info]
    rw [e]
    exact allV_app (h x (by simp)) (allV_cons (by unfold valid; decide) ih)
theorem allV_round {l : List Nd} (h : ∀ x ∈ l, allV (showT x)) : allV (roundT (l.map info)) := by
  cases l with
  | nil => exact allV_cons (by unfold valid; decide) (allV_cons (by unfold valid; decide) allV_nil)
  | cons x l =>
    have e : roundT ((x :: l).map info) = st S.lp :: (commaT ((x :: l).map info) ++ [st S.rp]) := by simp [roundT]
    rw [e]
    exact allV_cons (by unfold valid; decide) (allV_app (allV_comma h) (allV_cons (by unfold valid; decide) allV_nil))
theorem allV_all {l : List Nd} (h : ∀ x ∈ l, allV (showT x)) : allV (allT (l.map info)) := by
  intro p hp
  simp only [allT, List.mem_flatMap, List.mem_map] at hp
  obtain ⟨q, ⟨x, hx, rfl⟩, hp⟩ := hp
  exact h x hx p hp

theorem show_valid (x : Nd) : isN x → allV (showT x) := by
  refine nd_ind (m := fun x => isN x → allV (showT x)) (fun k t n kids ih h => ?_) x
  rw [isN] at h
  obtain ⟨h1, h2, h3, h4, h5, h6, h7, h8, h9⟩ := h
  rw [isN_go] at h9
  simp only [hasName] at h2 h3
  have hk : ∀ y ∈ kids, allV (showT y) := fun y hy => by
    obtain ⟨j, hj, hj'⟩ := List.getElem_of_mem hy
    exact ih y hy (h9 j y (by rw [List.getElem?_eq_getElem hj, hj'])).2
  have kw : ∀ s, valid (wt s) → allV [wt s] := fun s h => allV_cons h allV_nil
  have ks : ∀ s, valid (st s) → allV [st s] := fun s h => allV_cons h allV_nil
  unfold kidsOK at h1
  rcases h1 with rfl | rfl | ⟨rfl, hl⟩ | ⟨rfl | rfl | rfl | rfl | rfl | rfl | rfl | rfl, hl⟩ | ⟨rfl | rfl | rfl | rfl | rfl | rfl | rfl, hl⟩ | ⟨rfl, hl⟩ | ⟨rfl | rfl | rfl | rfl | rfl, hl⟩ | ⟨rfl, hl⟩ | ⟨rfl, hl⟩
  · have e : showT ⟨1, t, n, kids⟩ = allT (kids.map info) := by rw [showT_eq]; rfl
    rw [e]; exact allV_all hk
  · have e : showT ⟨4, t, n, kids⟩ = allT (kids.map info) := by rw [showT_eq]; rfl
    rw [e]; exact allV_all hk
  · obtain ⟨ps, b, rfl⟩ : ∃ ps b, kids = ps ++ [b] := ⟨kids.dropLast, kids.getLast (by intro e; rw [e] at hl; simp at hl), (List.dropLast_concat_getLast _).symm⟩
    have hsh : showT ⟨2, t, n, ps ++ [b]⟩ = [wt W.function_, wt t] ++ roundT (ps.map info) ++ showT b ++ [wt W.end_] := by
      rw [showT_eq]
      unfold comb
      rw [if_neg (by decide), if_pos rfl]
      simp [info]
    rw [hsh]
    exact allV_app (allV_app (allV_app (allV_cons (by unfold valid; decide) (kw _ (valid_name (h2 (by omega))))) (allV_round (fun x hx => hk x (by simp [hx])))) (hk b (by simp))) (kw _ (by unfold valid; decide))
  all_goals first
    | (obtain rfl := List.length_eq_zero_iff.1 hl; rw [showT_eq]; exact kw _ (valid_name (h2 (by omega))))
    | (obtain rfl := List.length_eq_zero_iff.1 hl; rw [showT_eq]; exact allV_cons (valid_num (by have := h5 rfl; omega)) allV_nil)
    | (obtain rfl := List.length_eq_zero_iff.1 hl; rw [showT_eq]; exact allV_cons (valid_text (h4.2 rfl)) allV_nil)
    | (obtain rfl := List.length_eq_zero_iff.1 hl; rw [showT_eq]; exact kw _ (by unfold valid; decide))
    | (obtain rfl := List.length_eq_zero_iff.1 hl; rw [showT_eq]; exact allV_cons (by unfold valid; decide) (ks _ (by unfold valid; decide)))
    | skip
  · match kids, hl, hk with
    | [y], _, hk =>
      have hy := hk y (by simp)
      rw [show_local]
      exact allV_app (allV_app (allV_cons (by unfold valid; decide) (allV_cons (valid_name (h2 (by omega))) (ks _ (by unfold valid; decide)))) hy) (ks _ (by unfold valid; decide))
  · match kids, hl, hk with
    | [y], _, hk =>
      have hy := hk y (by simp)
      rw [show_do]
      exact allV_app hy (ks _ (by unfold valid; decide))
  · match kids, hl, hk with
    | [y], _, hk =>
      have hy := hk y (by simp)
      rw [show_return]
      exact allV_cons (by unfold valid; decide) (allV_app hy (ks _ (by unfold valid; decide)))
  · match kids, hl, hk with
    | [y], _, hk =>
      have hy := hk y (by simp)
      rw [show_emit]
      exact allV_cons (by unfold valid; decide) (allV_app hy (ks _ (by unfold valid; decide)))
  · match kids, hl, hk with
    | [y], _, hk =>
      have hy := hk y (by simp)
      rw [show_not]
      exact allV_cons (by unfold valid; decide) (allV_at hy 6)
  · match kids, hl, hk with
    | [y], _, hk =>
      have hy := hk y (by simp)
      rw [show_neg]
      exact allV_cons (by unfold valid; decide) (allV_at hy 6)
  · match kids, hl, hk with
    | [y], _, hk =>
      have hy := hk y (by simp)
      rw [show_len]
      exact allV_cons (by unfold valid; decide) (allV_at hy 6)
  · match kids, hl, hk with
    | [y, z, v], _, hk =>
      have hy := hk y (by simp)
      have hz := hk z (by simp)
      have hv := hk v (by simp)
      rw [show_for]
      exact allV_app (allV_app (allV_cons (by unfold valid; decide) (allV_cons (valid_name (h2 (by omega))) (ks _ (by unfold valid; decide)))) hy) (allV_cons (by unfold valid; decide) (allV_app hz (allV_cons (by unfold valid; decide) (allV_app hv (kw _ (by unfold valid; decide))))))
  · match kids, hl, hk with
    | [y, z], _, hk =>
      have hy := hk y (by simp)
      have hz := hk z (by simp)
      rw [show_set]
      exact allV_app hy (allV_cons (by unfold valid; decide) (allV_app hz (ks _ (by unfold valid; decide))))
  · match kids, hl, hk with
    | [y, z], _, hk =>
      have hy := hk y (by simp)
      have hz := hk z (by simp)
      rw [show_while]
      exact allV_cons (by unfold valid; decide) (allV_app hy (allV_cons (by unfold valid; decide) (allV_app hz (kw _ (by unfold valid; decide)))))
  · match kids, hl, hk with
    | [y, z], _, hk =>
      have hy := hk y (by simp)
      have hz := hk z (by simp)
      rw [show_index]
      exact allV_app (allV_at hy 7) (allV_cons (by unfold valid; decide) (allV_app hz (ks _ (by unfold valid; decide))))
  · match kids, hl, hk with
    | [y, z], _, hk =>
      have hy := hk y (by simp)
      have hz := hk z (by simp)
      rw [show_op]
      exact allV_app (allV_at hy _) (allV_cons (valid_op (h4.1 rfl)) (allV_at hz _))
  · match kids, hl, hk with
    | [y, z], _, hk =>
      have hy := hk y (by simp)
      have hz := hk z (by simp)
      rw [show_next]
      exact allV_cons (by unfold valid; decide) (allV_cons (by unfold valid; decide) (allV_app hy (allV_cons (by unfold valid; decide) (allV_app hz (ks _ (by unfold valid; decide))))))
  · match kids, hl, hk with
    | [y, z], _, hk =>
      have hy := hk y (by simp)
      have hz := hk z (by simp)
      rw [show_if2]
      exact allV_cons (by unfold valid; decide) (allV_app hy (allV_cons (by unfold valid; decide) (allV_app hz (kw _ (by unfold valid; decide)))))
    | [y, z, v], _, hk =>
      have hy := hk y (by simp)
      have hz := hk z (by simp)
      have hv := hk v (by simp)
      rw [show_if3]
      exact allV_cons (by unfold valid; decide) (allV_app hy (allV_cons (by unfold valid; decide) (allV_app hz (allV_app (allV_cons (by unfold valid; decide) hv) (kw _ (by unfold valid; decide))))))
  · match kids, hl, hk with
    | y :: l, _, hk =>
      rw [show_call]
      exact allV_app (allV_at (hk y (by simp)) 7) (allV_round (fun x hx => hk x (by simp [hx])))

/-- What is written of a program is read as its tokens. -/
theorem print_scan {x : Nd} (h : isN x) : ∃ us, scanR 0 (textT (showT x)) = .toks us ∧ us.map (fun t => (t.k, t.t)) = showT x := scan_text _ 0 (show_valid x h)

end Go.Proofs.YtbdkiimggggndaaGreatDoor
namespace Go.Proofs.YtbdkiimggggndaaGreatDoor
open Go

/-- How many bytes tokens take, a blank behind each. -/
def cost : List PT → Nat
  | [] => 0
  | p :: l => (bytesOf p).length + 1 + cost l
theorem cost_app : ∀ a b : List PT, cost (a ++ b) = cost a + cost b
  | [], b => by simp [cost]
  | p :: a, b => by rw [List.cons_append, cost, cost, cost_app a b]; omega
theorem cost_w (s : List UInt8) (l : List PT) : cost (wt s :: l) = s.length + 1 + cost l := by
  rw [cost]; unfold bytesOf; rw [if_neg (by show ¬ (1 : Int) = 3; decide)]
theorem cost_s (s : List UInt8) (l : List PT) : cost (st s :: l) = s.length + 1 + cost l := by
  rw [cost]; unfold bytesOf; rw [if_neg (by show ¬ (4 : Int) = 3; decide)]
theorem cost_nil : cost [] = 0 := rfl
theorem text_len : ∀ ts : List PT, (textT ts).length ≤ cost ts
  | [] => by simp [textT]
  | [p] => by rw [textT, cost]; omega
  | p :: q :: l => by
    have := text_len (q :: l)
    rw [textT, cost, List.length_append, List.length_cons]
    omega

theorem on_inv {x : PR} {g : Nd → List PT → PR} {n : Nd} {l : List PT} (h : x.on g = some (.inr (n, l))) : ∃ m k, x = some (.inr (m, k)) ∧ g m k = some (.inr (n, l)) := by
  unfold PR.on at h
  match x, h with
  | some (.inr (m, k)), h => exact ⟨m, k, rfl, h⟩
theorem need_inv {s : List UInt8} {l : List PT} {g : List PT → PR} {n : Nd} {l1 : List PT} (h : need s l g = some (.inr (n, l1))) : tx l = s ∧ g l.tail = some (.inr (n, l1)) := by
  unfold need at h
  split at h
  · rename_i c; exact ⟨c, h⟩
  · cases h
theorem needName_inv {l : List PT} {g : List UInt8 → List PT → PR} {n : Nd} {l1 : List PT} (h : needName l g = some (.inr (n, l1))) : nameB (tx l) = true ∧ g (tx l) l.tail = some (.inr (n, l1)) := by
  unfold needName at h
  split at h
  · rename_i c; exact ⟨c, h⟩
  · cases h
/-- A word or sign that is passed. -/
theorem pass {l : List PT} (h : tx l ≠ []) : cost l = (tx l).length + 1 + cost l.tail ∧ (allV l → allV l.tail) := by
  cases l with
  | nil => exact absurd rfl h
  | cons p l =>
    have hk : ¬ (p.1 = 2 ∨ p.1 = 3) := fun c => h (by simp [tx, c])
    have e : tx (p :: l) = p.2 := by simp [tx, hk]
    rw [e, cost]
    unfold bytesOf
    rw [if_neg (fun c => hk (.inr c))]
    exact ⟨rfl, fun hv q hq => hv q (List.mem_cons_of_mem _ hq)⟩
theorem pass_of {l : List PT} {s : List UInt8} (h : tx l = s) (hs : s ≠ []) : cost l = s.length + 1 + cost l.tail ∧ (allV l → allV l.tail) := by
  subst h
  exact pass hs

theorem at_le (n : Nat) (x : Nd) : cost (showT x) ≤ cost (atT n (info x)) ∧ cost (atT n (info x)) ≤ cost (showT x) + 4 := by
  unfold atT info
  simp only
  split
  · unfold parT
    rw [cost_s, cost_app, cost_s, cost_nil]
    simp
    omega
  · omega
theorem at_mono {a b : Nat} (h : a ≤ b) (x : Nd) : cost (atT a (info x)) ≤ cost (atT b (info x)) := by
  have h1 := at_le b x
  unfold atT info at h1 ⊢
  simp only at h1 ⊢
  split
  · rw [if_pos (by omega)]; exact Nat.le_refl _
  · exact h1.1
theorem at_eq {a : Nat} {x : Nd} (h : a ≤ bindsN x) : atT a (info x) = showT x := by
  unfold atT info
  simp only
  rw [if_neg (by omega)]

def okE (y : Nd) : Prop := isN y ∧ exprK y.k
theorem fits_e {k : Int} (h : k ≠ 1 ∧ k ≠ 2 ∧ k ≠ 4 ∧ k ≠ 8 ∧ k ≠ 9 ∧ k ≠ 10) (len i : Nat) (kk : Int) (he : exprK kk) : fitsK k len i kk := by
  unfold fitsK
  rw [if_neg h.1, if_neg h.2.1, if_neg h.2.2.1, if_neg (by omega), if_neg h.2.2.2.2.2]
  exact he
/-- A node over expressions. -/
theorem mkE {k : Int} {n : Int} {kids : List Nd} (hk : kidsOK k kids.length) (he : 13 ≤ k ∧ k ≤ 26) (h18 : k ≠ 18) (h14 : k ≠ 14) (h13 : k = 13 → 0 ≤ n ∧ n ≤ 9223372036854775807) (h22 : k = 22 → (opOf n).isSome = true) (h0 : k ≠ 22 → k ≠ 13 → n = 0) (h : ∀ y ∈ kids, okE y) : okE ⟨k, [], n, kids⟩ := by
  refine ⟨?_, he⟩
  rw [isN]
  refine ⟨hk, fun c => by simp only [hasName] at c; omega, fun _ _ => rfl, ⟨h22, fun c => absurd c h14⟩, h13, h0, fun c => by omega, fun c => by omega, ?_⟩
  rw [isN_go]
  intro j y hy
  have := h y (List.mem_of_getElem? hy)
  exact ⟨fits_e (by omega) _ _ _ this.2, this.1⟩
theorem mkName {t : List UInt8} (h : nameB t = true) : okE ⟨18, t, 0, []⟩ := by
  refine ⟨?_, by show (13 : Int) ≤ 18 ∧ (18 : Int) ≤ 26; omega⟩
  rw [isN]
  refine ⟨by unfold kidsOK; simp, fun _ => h, fun c => absurd (by simp [hasName]) c, ⟨fun c => by omega, fun c => by omega⟩, fun c => by omega, fun _ _ => rfl, fun c => by omega, fun c => by omega, ?_⟩
  rw [isN_go]
  intro j y hy
  simp at hy
theorem mkText {t : List UInt8} (h : quotB t = true) : okE ⟨14, t, 0, []⟩ := by
  refine ⟨?_, by show (13 : Int) ≤ 14 ∧ (14 : Int) ≤ 26; omega⟩
  rw [isN]
  refine ⟨by unfold kidsOK; simp, fun c => by simp only [hasName] at c; omega, fun _ c => absurd rfl c, ⟨fun c => by omega, fun _ => h⟩, fun c => by omega, fun _ _ => rfl, fun c => by omega, fun c => by omega, ?_⟩
  rw [isN_go]
  intro j y hy
  simp at hy

theorem op_of_at {s : List UInt8} {o : Int} {k : Nat} (h : opAt s = some (o, k)) : opOf o = some (s, k) ∧ s ≠ [] := by
  unfold opAt at h
  cases hf : opsL.find? (fun p => p.1 == s) with
  | none => rw [hf] at h; cases h
  | some p =>
    rw [hf] at h
    obtain ⟨s', o', k'⟩ := p
    have h1 := List.mem_of_find?_eq_some hf
    have h2 := List.find?_some hf
    simp at h h2
    obtain ⟨rfl, rfl⟩ := h
    subst h2
    have : ∀ p ∈ opsL, opOf p.2.1 = some (p.1, p.2.2) ∧ p.1 ≠ [] := by decide
    exact this _ h1
theorem cost_op {o : Int} {s : List UInt8} {k : Nat} (h : opOf o = some (s, k)) (l : List PT) : cost (opT o :: l) = s.length + 1 + cost l := by
  unfold opT
  rw [h]
  simp only
  by_cases c : o = 20 ∨ o = 21
  · rw [if_pos c]; exact cost_w s l
  · rw [if_neg c]; exact cost_s s l

/-- What a numeral that is one spells is written as it was. -/
theorem dec_of : ∀ (m : Nat) (l : List UInt8), l.length ≤ m → l ≠ [] → l.all digB = true → (1 < l.length → l.head? ≠ some 48) → Lib.decDigits (numV l) = l
  | 0, l, h, h0, _, _ => absurd (List.eq_nil_of_length_eq_zero (by omega)) h0
  | m + 1, l, h, h0, ha, hz => by
    obtain ⟨q, c, rfl⟩ : ∃ q c, l = q ++ [c] := ⟨l.dropLast, l.getLast h0, (List.dropLast_concat_getLast _).symm⟩
    have hc := dig_lt (by simp only [List.all_append, List.all_cons, List.all_nil, Bool.and_true, Bool.and_eq_true] at ha; exact ha.2)
    have hq : q.all digB = true := by simp only [List.all_append, Bool.and_eq_true] at ha; exact ha.1
    have ec : UInt8.ofNat (48 + (c.toNat - 48)) = c := by
      rw [show 48 + (c.toNat - 48) = c.toNat by omega]; exact UInt8.ofNat_toNat
    rw [numV_snoc, Lib.decDigits]
    by_cases hqe : q = []
    · subst hqe
      have e0 : numV [] = 0 := rfl
      rw [e0, dif_pos (by omega)]
      simp only [Nat.zero_mul, Nat.zero_add, List.nil_append]
      rw [ec]
    · have hpos : 0 < numV q := by
        cases q with
        | nil => exact absurd rfl hqe
        | cons d r =>
          have hd := dig_lt (by simp only [List.all_cons, Bool.and_eq_true] at hq; exact hq.1)
          have hd2 : d ≠ 48 := fun e => hz (by simp) (by simp [e])
          have hd3 : d.toNat ≠ 48 := fun e => hd2 (UInt8.toNat_inj.1 e)
          have := numV_ge d r (by omega)
          have := Nat.pow_pos (n := r.length) (show 0 < 10 by omega)
          omega
      rw [dif_neg (by omega)]
      have e1 : (numV q * 10 + (c.toNat - 48)) / 10 = numV q := by omega
      have e2 : (numV q * 10 + (c.toNat - 48)) % 10 = c.toNat - 48 := by omega
      rw [e1, e2, ec, dec_of m q (by simp at h; omega) hqe hq (fun hl => by
        have := hz (by simp; omega)
        cases q with
        | nil => exact absurd rfl hqe
        | cons d r => simpa using this)]

/-- What a token of a number is. -/
theorem num_of_valid {t : List UInt8} (h : valid (2, t)) : Lib.decDigits (numV t) = t ∧ numV t ≤ 9223372036854775807 := by
  have hb : bytesOf (2, t) = t := by unfold bytesOf; rw [if_neg (by show ¬ (2 : Int) = 3; decide)]
  have h1 := h.1
  rw [hb] at h1
  cases t with
  | nil => simp [tokR] at h1
  | cons c r =>
    unfold tokR at h1
    simp only at h1
    split at h1
    · split at h1 <;> cases h1
    split at h1
    · split at h1
      · rename_i hz
        obtain ⟨_, e2, _⟩ := TokR.inj h1
        rw [e2] at hz
        unfold numE at hz
        split at hz
        · omega
        · rename_i ha
          split at hz
          · omega
          · rename_i h0
            split at hz
            · omega
            · rename_i hm
              exact ⟨dec_of _ (c :: r) (Nat.le_refl _) (by simp) (by simpa using ha) (fun hl he => h0 ⟨hl, he⟩), by omega⟩
      · cases h1
    split at h1
    · split at h1
      · split at h1
        · cases h1
        · have := (TokR.inj h1).1; omega
      · cases h1
    split at h1
    · cases h1
    · have := (TokR.inj h1).1; omega
theorem text_of_valid {t : List UInt8} (h : valid (3, t)) : quotB t = true := by
  have hb : bytesOf (3, t) = 34 :: (t ++ [34]) := by unfold bytesOf; rw [if_pos rfl]
  have h1 := h.1
  rw [hb] at h1
  unfold tokR at h1
  simp only at h1
  rw [if_neg (by decide), if_neg (by decide), if_pos (by decide)] at h1
  split at h1
  · split at h1
    · cases h1
    · rename_i h3
      obtain ⟨_, e2, e3⟩ := TokR.inj h1
      have hl : runN txtB (t ++ [34]) = t.length := by simp at e3; omega
      rw [hl] at h3
      simp only [quotB, Bool.and_eq_true, decide_eq_true_eq]
      refine ⟨?_, by omega⟩
      rw [List.all_eq_true]
      intro c hc
      obtain ⟨i, hi, hi'⟩ := List.getElem_of_mem hc
      refine runN_all txtB (t ++ [34]) i (by omega) c ?_
      rw [List.getElem?_append_left hi, List.getElem?_eq_getElem hi, hi']
  · cases h1

end Go.Proofs.YtbdkiimggggndaaGreatDoor
namespace Go.Proofs.YtbdkiimggggndaaGreatDoor
open Go

def sumC : List Nd → Nat
  | [] => 0
  | x :: l => cost (showT x) + 2 + sumC l
def sumS : List Nd → Nat
  | [] => 0
  | x :: l => cost (showT x) + sumS l
theorem sumC_app : ∀ a b : List Nd, sumC (a ++ b) = sumC a + sumC b
  | [], b => by simp [sumC]
  | p :: a, b => by rw [List.cons_append, sumC, sumC, sumC_app a b]; omega
theorem sumS_app : ∀ a b : List Nd, sumS (a ++ b) = sumS a + sumS b
  | [], b => by simp [sumS]
  | p :: a, b => by rw [List.cons_append, sumS, sumS, sumS_app a b]; omega
theorem cost_comma : ∀ us : List Nd, us ≠ [] → cost (commaT (us.map info)) + 2 = sumC us
  | [], h => absurd rfl h
  | [x], _ => by simp [commaT, sumC, info]
  | x :: y :: l, _ => by
    have ih := cost_comma (y :: l) (by simp)
    have e : commaT ((x :: y :: l).map info) = showT x ++ st S.cm :: commaT ((y :: l).map info) := by simp [commaT, info]
    rw [e, cost_app, cost_s, sumC, ← ih]
    simp
    omega
theorem cost_round (us : List Nd) (h : us ≠ []) : cost (roundT (us.map info)) = 2 + sumC us := by
  have e : roundT (us.map info) = st S.lp :: (commaT (us.map info) ++ [st S.rp]) := by
    unfold roundT
    rw [if_neg (by simpa using h)]
  rw [e, cost_s, cost_app, cost_s, cost_nil, ← cost_comma us h]
  simp <;> omega
theorem cost_round0 : cost (roundT (([] : List Nd).map info)) = 4 := by
  show cost [st S.lp, st S.rp] = 4
  rw [cost_s, cost_s, cost_nil]; rfl
theorem cost_all : ∀ us : List Nd, cost (allT (us.map info)) = sumS us
  | [] => rfl
  | x :: l => by
    have e : allT ((x :: l).map info) = showT x ++ allT (l.map info) := by simp [allT, info]
    rw [e, cost_app, cost_all l, sumS]

def Sound (tag : Nat) (x : Nd) (a : Nat) (l : List PT) (n : Nd) (l1 : List PT) : Prop :=
  match tag with
  | 0 => a ≤ 6 → okE n ∧ allV l1 ∧ cost (atT a (info n)) + cost l1 ≤ cost l
  | 1 => okE n ∧ allV l1 ∧ cost (atT 6 (info n)) + cost l1 ≤ cost l
  | 2 => a ≤ 5 → okE x → okE n ∧ allV l1 ∧ cost (atT a (info n)) + cost l1 ≤ cost (atT (if a = 2 then 3 else a) (info x)) + cost l
  | 3 => okE n ∧ allV l1 ∧ cost (atT 7 (info n)) + cost l1 ≤ cost l
  | 4 => okE x → okE n ∧ allV l1 ∧ cost (atT 7 (info n)) + cost l1 ≤ cost (atT 7 (info x)) + cost l
  | 5 => okE x → okE n ∧ allV l1 ∧ bindsN n = 7 ∧ cost (showT n) + cost l1 ≤ cost (atT 7 (info x)) + cost l ∧ (tx l = S.lb → n.k = 20 ∧ chainC n = chainC x) ∧ (tx l ≠ S.lb → n.k = 21 ∧ chainC n = (chainC x).map (· + 1))
  | 6 => ∀ ks, x = nd 21 ks → ∃ us, us ≠ [] ∧ n = nd 21 (ks ++ us) ∧ (∀ z ∈ us, okE z) ∧ allV l1 ∧ sumC us + cost l1 ≤ cost l
  | 7 => ∀ ks, x = nd 4 ks → ∃ us, n = nd 4 (ks ++ us) ∧ (∀ s ∈ us, isN s ∧ statK s.k) ∧ allV l1 ∧ sumS us + cost l1 ≤ cost l
  | 8 => isN n ∧ statK n.k ∧ allV l1 ∧ cost (showT n) + cost l1 ≤ cost l
  | 9 => okE x → bindsN x = 7 → chainC x = some a → isN n ∧ statK n.k ∧ allV l1 ∧ cost (showT n) + cost l1 ≤ cost (showT x) + cost l + 2
  | 10 => isN n ∧ n.k = 2 ∧ allV l1 ∧ cost (showT n) + cost l1 ≤ cost l
  | 11 => ∃ us, us ≠ [] ∧ n.kids = x.kids ++ us ∧ (∀ p ∈ us, ∃ s, p = ⟨3, s, 0, []⟩ ∧ nameB s = true) ∧ allV l1 ∧ sumC us + cost l1 ≤ cost l + 2
  | 12 => ∀ fs, x = nd 1 fs → ∃ us, n = nd 1 (fs ++ us) ∧ (∀ g ∈ us, isN g ∧ g.k = 2) ∧ sumS us + cost l1 ≤ cost l
  | _ => True

theorem okE_binds7 {k : Int} {t : List UInt8} {n : Int} {kids : List Nd} (h : k ≠ 22 ∧ k ≠ 23 ∧ k ≠ 24 ∧ k ≠ 25) : bindsN ⟨k, t, n, kids⟩ = 7 := binds7 _ _ _ h.1 h.2.1 h.2.2.1 h.2.2.2

theorem sound5 {x y : Nd} {l : List PT} {l1 : List PT} (hx : okE x) (hy : okE y) (hv : allV l1) (h : tx l = S.lb) (hc : cost (showT y) + 4 + cost l1 ≤ cost l) : Sound 5 x 0 l (nd 20 [x, y]) l1 := by
  intro _
  refine ⟨mkE (by unfold kidsOK; simp) (by omega) (by decide) (by decide) (fun c => by omega) (fun c => by omega) (fun _ _ => rfl) (fun z hz => by simp at hz; rcases hz with rfl | rfl <;> assumption), hv, okE_binds7 (by decide), ?_, fun _ => ⟨rfl, ?_⟩, fun c => absurd h c⟩
  · show cost (showT ⟨20, [], 0, [x, y]⟩) + cost l1 ≤ _
    rw [show_index, cost_app, cost_s, cost_app, cost_s, cost_nil]
    simp
    omega
  · show chainC ⟨20, [], 0, [x, y]⟩ = _
    rw [chainC, if_neg (by decide), if_pos rfl, chainC.go]
theorem sound5c {x : Nd} {us : List Nd} {l : List PT} {l1 : List PT} (hx : okE x) (hy : ∀ z ∈ us, okE z) (hv : allV l1) (h : tx l ≠ S.lb) (hc : cost (roundT (us.map info)) + cost l1 ≤ cost l) : Sound 5 x 0 l (nd 21 (x :: us)) l1 := by
  intro _
  refine ⟨mkE (by unfold kidsOK; simp) (by omega) (by decide) (by decide) (fun c => by omega) (fun c => by omega) (fun _ _ => rfl) (fun z hz => by simp at hz; rcases hz with rfl | hz; exact hx; exact hy z hz), hv, okE_binds7 (by decide), ?_, fun c => absurd c h, fun _ => ⟨rfl, ?_⟩⟩
  · show cost (showT ⟨21, [], 0, x :: us⟩) + cost l1 ≤ _
    rw [show_call, cost_app]
    omega
  · show chainC ⟨21, [], 0, x :: us⟩ = _
    rw [chainC, if_neg (by decide), if_neg (by decide), if_pos rfl, chainC.go]

theorem sound_expr (f : Nat) (ih : ∀ tag x a l n l1, P f tag x a l = some (.inr (n, l1)) → allV l → Sound tag x a l n l1) :
    ∀ tag x a l n l1, tag ≤ 6 → P (f + 1) tag x a l = some (.inr (n, l1)) → allV l → Sound tag x a l n l1 := by
  intro tag x a l n l1 ht h hv
  match tag, ht, h with
  | 0, _, h =>
    intro ha
    rw [P] at h
    by_cases c : 5 < a
    · rw [if_pos c] at h
      have ea : a = 6 := by omega
      rw [ea]
      exact ih 1 _ _ _ _ _ h hv
    · rw [if_neg c] at h
      obtain ⟨m, k, h1, h2⟩ := on_inv h
      obtain ⟨o1, v1, c1⟩ := ih 0 _ _ _ _ _ h1 hv (by omega)
      obtain ⟨o2, v2, c2⟩ := ih 2 _ _ _ _ _ h2 v1 (by omega) o1
      refine ⟨o2, v2, ?_⟩
      have : cost (atT (if a = 2 then 3 else a) (info m)) ≤ cost (atT (a + 1) (info m)) := at_mono (by split <;> omega) m
      omega
  | 1, _, h =>
    rw [P] at h
    have un : ∀ k : Int, (k = 23 ∨ k = 24 ∨ k = 25) → ∀ s : List UInt8, tx l = s → s ≠ [] → (P f 1 (nd 0 []) 0 l.tail).on (fun x l => .ok (nd k [x]) l) = some (.inr (n, l1)) → (∀ y, showT ⟨k, [], 0, [y]⟩ = wt s :: atT 6 (info y) ∨ showT ⟨k, [], 0, [y]⟩ = st s :: atT 6 (info y)) → Sound 1 x a l n l1 := fun k hk s hs hne h hsh => by
      obtain ⟨m, q, h1, h2⟩ := on_inv h
      cases h2
      obtain ⟨p1, p2⟩ := pass_of hs hne
      obtain ⟨o1, v1, c1⟩ := ih 1 _ _ _ _ _ h1 (p2 hv)
      refine ⟨mkE (by unfold kidsOK; simp; omega) (by omega) (by omega) (by omega) (fun c => by omega) (fun c => by omega) (fun _ _ => rfl) (fun z hz => by simp at hz; rw [hz]; exact o1), v1, ?_⟩
      have hb : bindsN (nd k [m]) = 6 := by
        unfold bindsN nd
        simp only
        rw [if_neg (by omega), if_pos hk]
      rw [at_eq (by omega)]
      show cost (showT ⟨k, [], 0, [m]⟩) + _ ≤ _
      rcases hsh m with e | e <;> rw [e]
      · rw [cost_w]; omega
      · rw [cost_s]; omega
    by_cases e1 : tx l = S.mi
    · rw [if_pos e1] at h
      exact un 24 (by omega) S.mi e1 (by decide) h (fun y => .inr (show_neg _ _ y))
    rw [if_neg e1] at h
    by_cases e2 : tx l = W.not_
    · rw [if_pos e2] at h
      exact un 23 (by omega) W.not_ e2 (by decide) h (fun y => .inl (show_not _ _ y))
    rw [if_neg e2] at h
    by_cases e3 : tx l = S.hs
    · rw [if_pos e3] at h
      exact un 25 (by omega) S.hs e3 (by decide) h (fun y => .inr (show_len _ _ y))
    rw [if_neg e3] at h
    obtain ⟨m, q, h1, h2⟩ := on_inv h
    obtain ⟨o1, v1, c1⟩ := ih 3 _ _ _ _ _ h1 hv
    obtain ⟨o2, v2, c2⟩ := ih 4 _ _ _ _ _ h2 v1 o1
    refine ⟨o2, v2, ?_⟩
    have := at_mono (show 6 ≤ 7 by omega) n
    omega
  | 2, _, h =>
    intro ha hx
    rw [P] at h
    have stop : PR.ok x l = some (.inr (n, l1)) → okE n ∧ allV l1 ∧ cost (atT a (info n)) + cost l1 ≤ cost (atT (if a = 2 then 3 else a) (info x)) + cost l := fun e => by
      cases e
      refine ⟨hx, hv, ?_⟩
      have : cost (atT a (info x)) ≤ cost (atT (if a = 2 then 3 else a) (info x)) := at_mono (by split <;> omega) x
      omega
    cases ho : opAt (tx l) with
    | none => rw [ho] at h; exact stop h
    | some p =>
      obtain ⟨o, k⟩ := p
      rw [ho] at h
      simp only at h
      by_cases c : k = a
      · subst c
        rw [if_pos rfl] at h
        obtain ⟨y, q, h1, h2⟩ := on_inv h
        obtain ⟨hof, hne⟩ := op_of_at ho
        obtain ⟨p1, p2⟩ := pass_of rfl hne
        obtain ⟨o1, v1, c1⟩ := ih 0 _ _ _ _ _ h1 (p2 hv) (by omega)
        have hlv : lvlN o = k := by unfold lvlN; rw [hof]; rfl
        have hb : bindsN ⟨22, [], o, [x, y]⟩ = k := by
          unfold bindsN
          simp only
          rw [if_pos trivial, hof]; rfl
        have hN : okE ⟨22, [], o, [x, y]⟩ := mkE (by unfold kidsOK; simp) (by omega) (by decide) (by decide) (fun c => by omega) (fun _ => by rw [hof]; rfl) (fun c => absurd rfl c) (fun z hz => by simp at hz; rcases hz with rfl | rfl <;> assumption)
        have hcost : cost (showT ⟨22, [], o, [x, y]⟩) + cost q ≤ cost (atT (if k = 2 then 3 else k) (info x)) + cost l := by
          rw [show_op, hlv, cost_app, cost_op hof]
          omega
        by_cases c2 : k = 2
        · rw [if_pos c2] at h2
          cases h2
          refine ⟨hN, v1, ?_⟩
          rw [at_eq (by omega)]
          exact hcost
        · rw [if_neg c2] at h2
          obtain ⟨o2, v2, c3⟩ := ih 2 _ _ _ _ _ h2 v1 ha hN
          refine ⟨o2, v2, ?_⟩
          rw [if_neg c2] at c3 ⊢
          rw [if_neg c2] at hcost
          rw [at_eq (x := ⟨22, [], o, [x, y]⟩) (by omega)] at c3
          omega
      · rw [if_neg c] at h
        exact stop h
  | 3, _, h =>
    cases l with
    | nil => rw [P] at h; cases h
    | cons t r =>
      rw [P] at h
      have hv0 := hv t (by simp)
      have hvr : allV r := fun q hq => hv q (by simp [hq])
      by_cases e2 : t.1 = 2
      · rw [if_pos e2] at h
        cases h
        obtain ⟨t1, t2⟩ := t
        simp only at e2
        subst e2
        obtain ⟨d1, d2⟩ := num_of_valid hv0
        refine ⟨mkE (by unfold kidsOK; simp) (by omega) (by decide) (by decide) (fun _ => by show (0 : Int) ≤ numOf t2 ∧ numOf t2 ≤ 9223372036854775807; unfold numOf; omega) (fun c => by omega) (fun _ c => absurd rfl c) (fun z hz => by simp at hz), hvr, ?_⟩
        rw [at_eq (by rw [okE_binds7 (by decide)]; omega), showT_eq]
        show cost [(2, digitsN (numOf t2).toNat)] + _ ≤ _
        have : (numOf t2).toNat = numV t2 := by unfold numOf; omega
        rw [this]
        unfold digitsN
        rw [d1]
        show cost [(2, t2)] + cost _ ≤ cost ((2, t2) :: _)
        simp only [cost]
        omega
      rw [if_neg e2] at h
      by_cases e3 : t.1 = 3
      · rw [if_pos e3] at h
        cases h
        obtain ⟨t1, t2⟩ := t
        simp only at e3
        subst e3
        refine ⟨mkText (text_of_valid hv0), hvr, ?_⟩
        rw [at_eq (by rw [okE_binds7 (by decide)]; omega), showT_eq]
        show cost [(3, t2)] + cost _ ≤ cost ((3, t2) :: _)
        simp only [cost]
        omega
      rw [if_neg e3] at h
      have word : ∀ (s : List UInt8) (k : Int), tx (t :: r) = s → s ≠ [] → (k = 15 ∨ k = 16 ∨ k = 17) → (showT ⟨k, [], 0, []⟩ = [wt s]) → PR.ok (nd k []) r = some (.inr (n, l1)) → Sound 3 x a (t :: r) n l1 := fun s k hs hne hk hsh e => by
        cases e
        obtain ⟨p1, p2⟩ := pass_of hs hne
        refine ⟨mkE (by unfold kidsOK; simp; omega) (by omega) (by omega) (by omega) (fun c => by omega) (fun c => by omega) (fun _ _ => rfl) (fun z hz => by simp at hz), hvr, ?_⟩
        rw [at_eq (by rw [show nd k [] = ⟨k, [], 0, []⟩ from rfl, okE_binds7 (by omega)]; omega)]
        show cost (showT ⟨k, [], 0, []⟩) + _ ≤ _
        rw [hsh, cost_w, cost_nil, p1]
        simp
      by_cases s1 : tx (t :: r) = S.lp
      · rw [if_pos s1] at h
        obtain ⟨m, q, h1, h2⟩ := on_inv h
        obtain ⟨n1, n2⟩ := need_inv h2
        cases n2
        obtain ⟨p1, p2⟩ := pass_of s1 (by decide)
        obtain ⟨p3, p4⟩ := pass_of n1 (by decide)
        obtain ⟨o1, v1, c1⟩ := ih 0 _ _ _ _ _ h1 hvr (by omega)
        refine ⟨o1, p4 v1, ?_⟩
        have := at_le 7 n
        have := at_le 0 n
        simp at p1 p3
        omega
      rw [if_neg s1] at h
      by_cases s2 : tx (t :: r) = W.nil_
      · rw [if_pos s2] at h; exact word _ 15 s2 (by decide) (by omega) (by rw [showT_eq]; rfl) h
      rw [if_neg s2] at h
      by_cases s3 : tx (t :: r) = W.true_
      · rw [if_pos s3] at h; exact word _ 16 s3 (by decide) (by omega) (by rw [showT_eq]; rfl) h
      rw [if_neg s3] at h
      by_cases s4 : tx (t :: r) = W.false_
      · rw [if_pos s4] at h; exact word _ 17 s4 (by decide) (by omega) (by rw [showT_eq]; rfl) h
      rw [if_neg s4] at h
      by_cases s5 : tx (t :: r) = S.lc
      · rw [if_pos s5] at h
        obtain ⟨n1, n2⟩ := need_inv h
        cases n2
        obtain ⟨p1, p2⟩ := pass_of s5 (by decide)
        obtain ⟨p3, p4⟩ := pass_of n1 (by decide)
        refine ⟨mkE (by unfold kidsOK; simp) (by omega) (by decide) (by decide) (fun c => by omega) (fun c => by omega) (fun _ _ => rfl) (fun z hz => by simp at hz), p4 hvr, ?_⟩
        rw [at_eq (by rw [show nd 19 [] = ⟨19, [], 0, []⟩ from rfl, okE_binds7 (by decide)]; omega)]
        have e : showT (nd 19 []) = [st S.lc, st S.rc] := by show showT ⟨19, [], 0, []⟩ = _; rw [showT_eq]; rfl
        rw [e, cost_s, cost_s, cost_nil]
        simp at p1 p3 ⊢
        omega
      rw [if_neg s5] at h
      by_cases s6 : tx (t :: r) = W.next_
      · rw [if_pos s6] at h
        obtain ⟨n1, n2⟩ := need_inv h
        obtain ⟨m, q, h1, h2⟩ := on_inv n2
        obtain ⟨n3, n4⟩ := need_inv h2
        obtain ⟨m2, q2, h3, h4⟩ := on_inv n4
        obtain ⟨n5, n6⟩ := need_inv h4
        cases n6
        obtain ⟨p1, p2⟩ := pass_of s6 (by decide)
        obtain ⟨p3, p4⟩ := pass_of n1 (by decide)
        obtain ⟨p5, p6⟩ := pass_of n3 (by decide)
        obtain ⟨p7, p8⟩ := pass_of n5 (by decide)
        obtain ⟨o1, v1, c1⟩ := ih 0 _ _ _ _ _ h1 (p4 hvr) (by omega)
        obtain ⟨o2, v2, c2⟩ := ih 0 _ _ _ _ _ h3 (p6 v1) (by omega)
        refine ⟨mkE (by unfold kidsOK; simp) (by omega) (by decide) (by decide) (fun c => by omega) (fun c => by omega) (fun _ _ => rfl) (fun z hz => by simp at hz; rcases hz with rfl | rfl <;> assumption), p8 v2, ?_⟩
        rw [at_eq (by rw [show nd 26 [m, m2] = ⟨26, [], 0, [m, m2]⟩ from rfl, okE_binds7 (by decide)]; omega)]
        show cost (showT ⟨26, [], 0, [m, m2]⟩) + _ ≤ _
        have := at_le 0 m
        have := at_le 0 m2
        rw [show_next, cost_w, cost_s, cost_app, cost_s, cost_app, cost_s, cost_nil]
        simp at p1 p3 p5 p7 ⊢
        omega
      rw [if_neg s6] at h
      obtain ⟨n1, n2⟩ := needName_inv h
      cases n2
      have hne : tx (t :: r) ≠ [] := fun e => by rw [e] at n1; revert n1; decide
      obtain ⟨p1, p2⟩ := pass hne
      refine ⟨mkName n1, hvr, ?_⟩
      rw [at_eq (by rw [okE_binds7 (by decide)]; omega), showT_eq]
      show cost [wt (tx (t :: r))] + _ ≤ _
      rw [cost_w, cost_nil]
      simp at p1 ⊢
      omega
  | 4, _, h =>
    intro hx
    rw [P] at h
    by_cases c : tx l = S.lb ∨ tx l = S.lp
    · rw [if_pos c] at h
      obtain ⟨m, q, h1, h2⟩ := on_inv h
      obtain ⟨o1, v1, b1, c1, _, _⟩ := ih 5 _ _ _ _ _ h1 hv hx
      obtain ⟨o2, v2, c2⟩ := ih 4 _ _ _ _ _ h2 v1 o1
      refine ⟨o2, v2, ?_⟩
      rw [at_eq (x := m) (by omega)] at c2
      omega
    · rw [if_neg c] at h
      cases h
      exact ⟨hx, hv, Nat.le_refl _⟩
  | 5, _, h =>
    intro hx
    rw [P] at h
    by_cases c : tx l = S.lb
    · rw [if_pos c] at h
      obtain ⟨m, q, h1, h2⟩ := on_inv h
      obtain ⟨n1, n2⟩ := need_inv h2
      cases n2
      obtain ⟨p1, p2⟩ := pass_of c (by decide)
      obtain ⟨p3, p4⟩ := pass_of n1 (by decide)
      obtain ⟨o1, v1, c1⟩ := ih 0 _ _ _ _ _ h1 (p2 hv) (by omega)
      have := at_le 0 m
      exact sound5 hx o1 (p4 v1) c (by simp at p1 p3; omega) hx
    · rw [if_neg c] at h
      obtain ⟨n1, n2⟩ := need_inv h
      obtain ⟨p1, p2⟩ := pass_of n1 (by decide)
      by_cases c2 : tx l.tail = S.rp
      · rw [if_pos c2] at n2
        cases n2
        obtain ⟨p3, p4⟩ := pass_of c2 (by decide)
        exact sound5c (us := []) hx (fun z hz => by simp at hz) (p4 (p2 hv)) c (by rw [cost_round0]; simp at p1 p3; omega) hx
      · rw [if_neg c2] at n2
        obtain ⟨us, u1, u2, u3, u4, u5⟩ := ih 6 _ _ _ _ _ n2 (p2 hv) [x] rfl
        subst u2
        exact sound5c (us := us) hx u3 u4 c (by rw [cost_round us u1]; simp at p1; omega) hx
  | 6, _, h =>
    intro ks hks
    subst hks
    rw [P] at h
    obtain ⟨m, q, h1, h2⟩ := on_inv h
    obtain ⟨o1, v1, c1⟩ := ih 0 _ _ _ _ _ h1 hv (by omega)
    have := at_le 0 m
    by_cases c : tx q = S.cm
    · rw [if_pos c] at h2
      obtain ⟨p1, p2⟩ := pass_of c (by decide)
      obtain ⟨us, u1, u2, u3, u4, u5⟩ := ih 6 _ _ _ _ _ h2 (p2 v1) _ rfl
      refine ⟨m :: us, by simp, by rw [u2]; simp [nd], fun z hz => ?_, u4, ?_⟩
      · simp at hz
        rcases hz with rfl | hz
        · exact o1
        · exact u3 z hz
      · rw [sumC]
        simp at p1
        omega
    · rw [if_neg c] at h2
      obtain ⟨n1, n2⟩ := need_inv h2
      cases n2
      obtain ⟨p1, p2⟩ := pass_of n1 (by decide)
      refine ⟨[m], by simp, rfl, fun z hz => by simp at hz; rw [hz]; exact o1, p2 v1, ?_⟩
      rw [sumC, sumC]
      simp at p1
      omega

end Go.Proofs.YtbdkiimggggndaaGreatDoor
