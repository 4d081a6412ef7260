/- Of programs, in plain words: what is written has just the tokens that were to be written. Of programs, in plain words: what is read is a node of a program, and is written no longer than it was. -/
import Derived.Test.YtbofdfdmikhanaaGreatDoorJ09
import Derived.Test.YtbofdfdmikhanaaGreatDoorJ02
namespace Go.Proofs.YtbofdfdmikhanaaGreatDoor
open Go

def bytesOf (p : PT) : List UInt8 := if p.1 = 3 then 34 :: (p.2 ++ [34]) else p.2
/-- Tokens, with a blank between two. -/
def textT : List PT → List UInt8
  | [] => []
  | [p] => bytesOf p
  | p :: q :: l => bytesOf p ++ 32 :: textT (q :: l)
/-- It is read as the token that it is. -/
def valid (p : PT) : Prop := tokR (bytesOf p) = .tok p.1 p.2 (bytesOf p).length ∧ gap1 (bytesOf p) = 0

theorem valid_ne {p : PT} (h : valid p) : bytesOf p ≠ [] := fun e => by
  have := tok_size h.1
  rw [e] at this
  simp at this
theorem scan_text : ∀ (ts : List PT) (a : Nat), (∀ p ∈ ts, valid p) → ∃ us, scanR a (textT ts) = .toks us ∧ us.map (fun t => (t.k, t.t)) = ts
  | [], a, _ => ⟨[], rfl, rfl⟩
  | [p], a, h => by
    have hp := h p (by simp)
    refine ⟨[⟨p.1, p.2, a⟩], ?_, rfl⟩
    rw [textT, scanR_tok (valid_ne hp) hp.2 hp.1, List.drop_length, scanR_nil]
    rfl
  | p :: q :: l, a, h => by
    have hp := h p (by simp)
    obtain ⟨us, h1, h2⟩ := scan_text (q :: l) (a + (bytesOf p).length + 1) (fun z hz => h z (by simp at hz ⊢; exact .inr hz))
    have t1 := (tok_again hp.1 (textT (q :: l))).1
    have t2 := gap_again hp.2 hp.1 (textT (q :: l))
    rw [List.take_length] at t1 t2
    refine ⟨⟨p.1, p.2, a⟩ :: us, ?_, by simp [h2]⟩
    rw [textT, scanR_tok (by simp) t2 t1]
    have hd : (bytesOf p ++ 32 :: textT (q :: l)).drop (bytesOf p).length = 32 :: textT (q :: l) := by simp
    have hg : gap1 (32 :: textT (q :: l)) = 1 := by simp [gap1]
    rw [hd, scanR_gap (by rw [hg]; omega), hg, List.drop_succ_cons, List.drop_zero, h1]
    rfl

theorem runN_full {p : UInt8 → Bool} {l : List UInt8} (h : l.all p = true) : runN p l = l.length :=
  runN_eq p l l.length (Nat.le_refl _) (fun i c _ hc => (List.all_eq_true.1 h) c (List.mem_of_getElem? hc)) (fun c hc => by rw [List.getElem?_eq_none (Nat.le_refl _)] at hc; cases hc)

theorem valid_name {s : List UInt8} (h : nameB s = true) : valid (wt s) := by
  simp only [nameB, Bool.and_eq_true, decide_eq_true_eq] at h
  obtain ⟨⟨⟨⟨h1, h2⟩, h3⟩, h4⟩, _⟩ := h
  have hb : bytesOf (wt s) = s := by unfold bytesOf; rw [if_neg (by show ¬ (1 : Int) = 3; decide)]
  unfold valid
  rw [hb]
  cases s with
  | nil => simp at h1
  | cons c r =>
    have hc : letB c = true := h3
    have hn : 65 ≤ c.toNat := by simp [letB] at hc; omega
    refine ⟨?_, ?_⟩
    · unfold tokR
      simp only
      rw [if_pos hc, runN_full h4, if_neg (by omega), List.take_length]
    · unfold gap1
      simp only
      rw [if_neg (by omega), if_neg (by omega)]

theorem dec_digits : ∀ (m u : Nat), u < m → (Lib.decDigits u).all digB = true ∧ Lib.decDigits u ≠ [] ∧ (1 < (Lib.decDigits u).length → (Lib.decDigits u).head? ≠ some 48)
  | 0, u, h => by omega
  | m + 1, u, h => by
    have hd : ∀ v, v < 10 → digB (UInt8.ofNat (48 + v)) = true := fun v hv => by
      have : (UInt8.ofNat (48 + v)).toNat = 48 + v := UInt8.toNat_ofNat_of_lt' (by show 48 + v < 256; omega)
      simp only [digB, this, Bool.and_eq_true, decide_eq_true_eq]
      omega
    rw [Lib.decDigits]
    by_cases hu : u < 10
    · rw [dif_pos hu]
      exact ⟨by simp only [List.all_cons, List.all_nil, Bool.and_true]; exact hd u hu, by simp, fun h => by simp at h⟩
    · rw [dif_neg hu]
      obtain ⟨h1, h2, h3⟩ := dec_digits m (u / 10) (by omega)
      refine ⟨by simp only [List.all_append, h1, List.all_cons, List.all_nil, Bool.and_true, Bool.true_and]; exact hd _ (by omega), by simp, fun _ => ?_⟩
      have hv := numV_dec (u / 10 + 1) (u / 10) (by omega)
      cases he : Lib.decDigits (u / 10) with
      | nil => exact absurd he h2
      | cons c r =>
        rw [he] at h3 hv
        simp only [List.cons_append, List.head?_cons]
        intro e
        by_cases hr : r = []
        · subst hr
          injection e with e
          subst e
          simp [numV] at hv
          omega
        · exact h3 (by have := List.length_pos_iff.2 hr; simp; omega) (by simpa using e)

theorem valid_num {u : Nat} (h : u ≤ 9223372036854775807) : valid (2, digitsN u) := by
  obtain ⟨h1, h2, h3⟩ := dec_digits (u + 1) u (by omega)
  have hv := numV_dec (u + 1) u (by omega)
  unfold digitsN
  have hb : bytesOf (2, Lib.decDigits u) = Lib.decDigits u := by unfold bytesOf; rw [if_neg (by show ¬ (2 : Int) = 3; decide)]
  unfold valid
  rw [hb]
  have hrow : (Lib.decDigits u).all rowB = true := by
    rw [List.all_eq_true] at h1 ⊢
    intro c hc
    simp [rowB, h1 c hc]
  cases he : Lib.decDigits u with
  | nil => exact absurd he h2
  | cons c r =>
    rw [he] at h1 h3 hv hrow
    have hc := dig_lt (by simp only [List.all_cons, Bool.and_eq_true] at h1; exact h1.1)
    have hl : letB c = false := by simp [letB]; omega
    have hd : digB c = true := by simp [digB]; omega
    have hE : numE (c :: r) = 0 := by
      unfold numE
      rw [h1, if_neg (by simp), if_neg (fun h => h3 h.1 h.2), if_neg (by omega)]
    refine ⟨?_, ?_⟩
    · unfold tokR
      simp only
      rw [if_neg (by simp [hl]), if_pos hd, runN_full hrow, List.take_length, if_pos hE]
    · unfold gap1
      simp only
      rw [if_neg (by omega), if_neg (by omega)]

theorem valid_text {t : List UInt8} (h : quotB t = true) : valid (3, t) := by
  simp only [quotB, Bool.and_eq_true, decide_eq_true_eq] at h
  have hb : bytesOf (3, t) = 34 :: (t ++ [34]) := by unfold bytesOf; rw [if_pos rfl]
  unfold valid
  rw [hb]
  have hr : runN txtB (t ++ [34]) = t.length := by
    refine runN_eq txtB _ _ (by simp) (fun i c hi hc => ?_) (fun c hc => ?_)
    · rw [List.getElem?_append_left hi] at hc
      exact (List.all_eq_true.1 h.1) c (List.mem_of_getElem? hc)
    · rw [List.getElem?_append_right (Nat.le_refl _)] at hc
      simp at hc
      subst hc
      decide
  refine ⟨?_, by simp [gap1]⟩
  unfold tokR
  simp only
  rw [if_neg (by decide), if_neg (by decide), if_pos (by decide), hr, if_pos (by simp), if_neg (by omega)]
  simp

theorem valid_op {o : Int} (h : (opOf o).isSome = true) : valid (opT o) := by
  cases hq : opOf o with
  | none => rw [hq] at h; cases h
  | some p =>
    obtain ⟨s, k⟩ := p
    have hm := op_mem hq
    have : ∀ p ∈ opsL, valid ((if p.2.1 = 20 ∨ p.2.1 = 21 then 1 else 4), p.1) := by
      unfold valid
      decide
    have := this _ hm
    unfold opT
    rw [hq]
    exact this

def allV (ts : List PT) : Prop := ∀ p ∈ ts, valid p
theorem allV_app {a b : List PT} (ha : allV a) (hb : allV b) : allV (a ++ b) := fun p hp => (List.mem_append.1 hp).elim (ha p) (hb p)
theorem allV_cons {p : PT} {l : List PT} (hp : valid p) (hl : allV l) : allV (p :: l) := fun q hq => by
  simp at hq
  rcases hq with rfl | hq
  · exact hp
  · exact hl q hq
theorem allV_nil : allV [] := fun p hp => by simp at hp
theorem allV_par {l : List PT} (h : allV l) : allV (parT l) := allV_cons (by unfold valid; decide) (allV_app h (allV_cons (by unfold valid; decide) allV_nil))
theorem allV_at {x : Nd} (h : allV (showT x)) (n : Nat) : allV (atT n (info x)) := by
  unfold atT info
  simp only
  split
  · exact allV_par h
  · exact h
theorem allV_comma : ∀ {l : List Nd}, (∀ x ∈ l, allV (showT x)) → allV (commaT (l.map info))
  | [], _ => allV_nil
  | [x], h => h x (by simp)
  | x :: y :: l, h => by
    have ih := allV_comma (l := y :: l) (fun z hz => h z (by simp at hz ⊢; exact .inr hz))
    have e : commaT ((x :: y :: l).map info) = showT x ++ st S.cm :: commaT ((y :: l).map info) := by simp [commaT, info]
    rw [e]
    exact allV_app (h x (by simp)) (allV_cons (by unfold valid; decide) ih)
theorem allV_round {l : List Nd} (h : ∀ x ∈ l, allV (showT x)) : allV (roundT (l.map info)) := by
  cases l with
  | nil => exact allV_cons (by unfold valid; decide) (allV_cons (by unfold valid; decide) allV_nil)
  | cons x l =>
    have e : roundT ((x :: l).map info) = st S.lp :: (commaT ((x :: l).map info) ++ [st S.rp]) := by simp [roundT]
    rw [e]
    exact allV_cons (by unfold valid; decide) (allV_app (allV_comma h) (allV_cons (by unfold valid; decide) allV_nil))
theorem allV_all {l : List Nd} (h : ∀ x ∈ l, allV (showT x)) : allV (allT (l.map info)) := by
  intro p hp
  simp only [allT, List.mem_flatMap, List.mem_map] at hp
  obtain ⟨q, ⟨x, hx, rfl⟩, hp⟩ := hp
  exact h x hx p hp

theorem show_valid (x : Nd) : isN x → allV (showT x) := by
  refine nd_ind (m := fun x => isN x → allV (showT x)) (fun k t n kids ih h => ?_) x
  rw [isN] at h
  obtain ⟨h1, h2, h3, h4, h5, h6, h7, h8, h9⟩ := h
  rw [isN_go] at h9
  simp only [hasName] at h2 h3
  have hk : ∀ y ∈ kids, allV (showT y) := fun y hy => by
    obtain ⟨j, hj, hj'⟩ := List.getElem_of_mem hy
    exact ih y hy (h9 j y (by rw [List.getElem?_eq_getElem hj, hj'])).2
  have kw : ∀ s, valid (wt s) → allV [wt s] := fun s h => allV_cons h allV_nil
  have ks : ∀ s, valid (st s) → allV [st s] := fun s h => allV_cons h allV_nil
  unfold kidsOK at h1
  rcases h1 with rfl | rfl | ⟨rfl, hl⟩ | ⟨rfl | rfl | rfl | rfl | rfl | rfl | rfl | rfl, hl⟩ | ⟨rfl | rfl | rfl | rfl | rfl | rfl | rfl, hl⟩ | ⟨rfl, hl⟩ | ⟨rfl | rfl | rfl | rfl | rfl, hl⟩ | ⟨rfl, hl⟩ | ⟨rfl, hl⟩
  · have e : showT ⟨1, t, n, kids⟩ = allT (kids.map info) := by rw [showT_eq]; rfl
    rw [e]; exact allV_all hk
  · have e : showT ⟨4, t, n, kids⟩ = allT (kids.map info) := by rw [showT_eq]; rfl
    rw [e]; exact allV_all hk
  · obtain ⟨ps, b, rfl⟩ : ∃ ps b, kids = ps ++ [b] := ⟨kids.dropLast, kids.getLast (by intro e; rw [e] at hl; simp at hl), (List.dropLast_concat_getLast _).symm⟩
    have hsh : showT ⟨2, t, n, ps ++ [b]⟩ = [wt W.function_, wt t] ++ roundT (ps.map info) ++ showT b ++ [wt W.end_] := by
      rw [showT_eq]
      unfold comb
      rw [if_neg (by decide), if_pos rfl]
      simp [info]
    rw [hsh]
    exact allV_app (allV_app (allV_app (allV_cons (by unfold valid; decide) (kw _ (valid_name (h2 (by omega))))) (allV_round (fun x hx => hk x (by simp [hx])))) (hk b (by simp))) (kw _ (by unfold valid; decide))
  all_goals first
    | (obtain rfl := List.length_eq_zero_iff.1 hl; rw [showT_eq]; exact kw _ (valid_name (h2 (by omega))))
    | (obtain rfl := List.length_eq_zero_iff.1 hl; rw [showT_eq]; exact allV_cons (valid_num (by have := h5 rfl; omega)) allV_nil)
    | (obtain rfl := List.length_eq_zero_iff.1 hl; rw [showT_eq]; exact allV_cons (valid_text (h4.2 rfl)) allV_nil)
    | (obtain rfl := List.length_eq_zero_iff.1 hl; rw [showT_eq]; exact kw _ (by unfold valid; decide))
    | (obtain rfl := List.length_eq_zero_iff.1 hl; rw [showT_eq]; exact allV_cons (by unfold valid; decide) (ks _ (by unfold valid; decide)))
    | skip
  · match kids, hl, hk with
    | [y], _, hk =>
      have hy := hk y (by simp)
      rw [show_local]
      exact allV_app (allV_app (allV_cons (by unfold valid; decide) (allV_cons (valid_name (h2 (by omega))) (ks _ (by unfold valid; decide)))) hy) (ks _ (by unfold valid; decide))
  · match kids, hl, hk with
    | [y], _, hk =>
      have hy := hk y (by simp)
      rw [show_do]
      exact allV_app hy (ks _ (by unfold valid; decide))
  · match kids, hl, hk with
    | [y], _, hk =>
      have hy := hk y (by simp)
      rw [show_return]
      exact allV_cons (by unfold valid; decide) (allV_app hy (ks _ (by unfold valid; decide)))
  · match kids, hl, hk with
    | [y], _, hk =>
      have hy := hk y (by simp)
      rw [show_emit]
      exact allV_cons (by unfold valid; decide) (allV_app hy (ks _ (by unfold valid; decide)))
  · match kids, hl, hk with
    | [y], _, hk =>
      have hy := hk y (by simp)
      rw [show_not]
      exact allV_cons (by unfold valid; decide) (allV_at hy 6)
  · match kids, hl, hk with
    | [y], _, hk =>
      have hy := hk y (by simp)
      rw [show_neg]
      exact allV_cons (by unfold valid; decide) (allV_at hy 6)
  · match kids, hl, hk with
    | [y], _, hk =>
      have hy := hk y (by simp)
      rw [show_len]
      exact allV_cons (by unfold valid; decide) (allV_at hy 6)
  · match kids, hl, hk with
    | [y, z, v], _, hk =>
      have hy := hk y (by simp)
      have hz := hk z (by simp)
      have hv := hk v (by simp)
      rw [show_for]
      exact allV_app (allV_app (allV_cons (by unfold valid; decide) (allV_cons (valid_name (h2 (by omega))) (ks _ (by unfold valid; decide)))) hy) (allV_cons (by unfold valid; decide) (allV_app hz (allV_cons (by unfold valid; decide) (allV_app hv (kw _ (by unfold valid; decide))))))
  · match kids, hl, hk with
    | [y, z], _, hk =>
      have hy := hk y (by simp)
      have hz := hk z (by simp)
      rw [show_set]
      exact allV_app hy (allV_cons (by unfold valid; decide) (allV_app hz (ks _ (by unfold valid; decide))))
  · match kids, hl, hk with
    | [y, z], _, hk =>
      have hy := hk y (by simp)
      have hz := hk z (by simp)
      rw [show_while]
      exact allV_cons (by unfold valid; decide) (allV_app hy (allV_cons (by unfold valid; decide) (allV_app hz (kw _ (by unfold valid; decide)))))
  · match kids, hl, hk with
    | [y, z], _, hk =>
      have hy := hk y (by simp)
      have hz := hk z (by simp)
      rw [show_index]
      exact allV_app (allV_at hy 7) (allV_cons (by unfold valid; decide) (allV_app hz (ks _ (by unfold valid; decide))))
  · match kids, hl, hk with
    | [y, z], _, hk =>
      have hy := hk y (by simp)
      have hz := hk z (by simp)
      rw [show_op]
      exact allV_app (allV_at hy _) (allV_cons (valid_op (h4.1 rfl)) (allV_at hz _))
  · match kids, hl, hk with
    | [y, z], _, hk =>
      have hy := hk y (by simp)
      have hz := hk z (by simp)
      rw [show_next]
      exact allV_cons (by unfold valid; decide) (allV_cons (by unfold valid; decide) (allV_app hy (allV_cons (by unfold valid; decide) (allV_app hz (ks _ (by unfold valid; decide))))))
  · match kids, hl, hk with
    | [y, z], _, hk =>
      have hy := hk y (by simp)
      have hz := hk z (by simp)
      rw [show_if2]
      exact allV_cons (by unfold valid; decide) (allV_app hy (allV_cons (by unfold valid; decide) (allV_app hz (kw _ (by unfold valid; decide)))))
    | [y, z, v], _, hk =>
      have hy := hk y (by simp)
      have hz := hk z (by simp)
      have hv := hk v (by simp)
      rw [show_if3]
      exact allV_cons (by unfold valid; decide) (allV_app hy (allV_cons (by unfold valid; decide) (allV_app hz (allV_app (allV_cons (by unfold valid; decide) hv) (kw _ (by unfold valid; decide))))))
  · match kids, hl, hk with
    | y :: l, _, hk =>
      rw [show_call]
      exact allV_app (allV_at (hk y (by simp)) 7) (allV_round (fun x hx => hk x (by simp [hx])))

/-- What is written of a program is read as its tokens. -/
theorem print_scan {x : Nd} (h : isN x) : ∃ us, scanR 0 (textT (showT x)) = .toks us ∧ us.map (fun t => (t.k, t.t)) = showT x := scan_text _ 0 (show_valid x h)

end Go.Proofs.YtbofdfdmikhanaaGreatDoor
namespace Go.Proofs.YtbofdfdmikhanaaGreatDoor
open Go

/-- How many bytes tokens take, a blank behind each. -/
def cost : List PT → Nat
  | [] => 0
  | p :: l => (bytesOf p).length + 1 + cost l
theorem cost_app : ∀ a b : List PT, cost (a ++ b) = cost a + cost b
  | [], b => by simp [cost]
  | p :: a, b => by rw [List.cons_append, cost, cost, cost_app a b]; omega
theorem cost_w (s : List UInt8) (l : List PT) : cost (wt s :: l) = s.length + 1 + cost l := by
  rw [cost]; unfold bytesOf; rw [if_neg (by show ¬ (1 : Int) = 3; decide)]
theorem cost_s (s : List UInt8) (l : List PT) : cost (st s :: l) = s.length + 1 + cost l := by
  rw [cost]; unfold bytesOf; rw [if_neg (by show ¬ (4 : Int) = 3; decide)]
theorem cost_nil : cost [] = 0 := rfl
theorem text_len : ∀ ts : List PT, (textT ts).length ≤ cost ts
  | [] => by simp [textT]
  | [p] => by rw [textT, cost]; omega
  | p :: q :: l => by
    have := text_len (q :: l)
    rw [textT, cost, List.length_append, List.length_cons]
    omega

theorem on_inv {x : PR} {g : Nd → List PT → PR} {n : Nd} {l : List PT} (h : x.on g = some (.inr (n, l))) : ∃ m k, x = some (.inr (m, k)) ∧ g m k = some (.inr (n, l)) := by
  unfold PR.on at h
  match x, h with
  | some (.inr (m, k)), h => exact ⟨m, k, rfl, h⟩
theorem need_inv {s : List UInt8} {l : List PT} {g : List PT → PR} {n : Nd} {l1 : List PT} (h : need s l g = some (.inr (n, l1))) : tx l = s ∧ g l.tail = some (.inr (n, l1)) := by
  unfold need at h
  split at h
  · rename_i c; exact ⟨c, h⟩
  · cases h
theorem needName_inv {l : List PT} {g : List UInt8 → List PT → PR} {n : Nd} {l1 : List PT} (h : needName l g = some (.inr (n, l1))) : nameB (tx l) = true ∧ g (tx l) l.tail = some (.inr (n, l1)) := by
  unfold needName at h
  split at h
  · rename_i c; exact ⟨c, h⟩
  · cases h
/-- A word or sign that is passed. -/
theorem pass {l : List PT} (h : tx l ≠ []) : cost l = (tx l).length + 1 + cost l.tail ∧ (allV l → allV l.tail) := by
  cases l with
  | nil => exact absurd rfl h
  | cons p l =>
    have hk : ¬ (p.1 = 2 ∨ p.1 = 3) := fun c => h (by simp [tx, c])
    have e : tx (p :: l) = p.2 := by simp [tx, hk]
    rw [e, cost]
    unfold bytesOf
    rw [if_neg (fun c => hk (.inr c))]
    exact ⟨rfl, fun hv q hq => hv q (List.mem_cons_of_mem _ hq)⟩
theorem pass_of {l : List PT} {s : List UInt8} (h : tx l = s) (hs : s ≠ []) : cost l = s.length + 1 + cost l.tail ∧ (allV l → allV l.tail) := by
  subst h
  exact pass hs

theorem at_le (n : Nat) (x : Nd) : cost (showT x) ≤ cost (atT n (info x)) ∧ cost (atT n (info x)) ≤ cost (showT x) + 4 := by
  unfold atT info
  simp only
  split
  · unfold parT
    rw [cost_s, cost_app, cost_s, cost_nil]
    simp
    omega
  · omega
theorem at_mono {a b : Nat} (h : a ≤ b) (x : Nd) : cost (atT a (info x)) ≤ cost (atT b (info x)) := by
  have h1 := at_le b x
  unfold atT info at h1 ⊢
  simp only at h1 ⊢
  split
  · rw [if_pos (by omega)]; exact Nat.le_refl _
  · exact h1.1
theorem at_eq {a : Nat} {x : Nd} (h : a ≤ bindsN x) : atT a (info x) = showT x := by
  unfold atT info
  simp only
  rw [if_neg (by omega)]

def okE (y : Nd) : Prop := isN y ∧ exprK y.k
theorem fits_e {k : Int} (h : k ≠ 1 ∧ k ≠ 2 ∧ k ≠ 4 ∧ k ≠ 8 ∧ k ≠ 9 ∧ k ≠ 10) (len i : Nat) (kk : Int) (he : exprK kk) : fitsK k len i kk := by
  unfold fitsK
  rw [if_neg h.1, if_neg h.2.1, if_neg h.2.2.1, if_neg (by omega), if_neg h.2.2.2.2.2]
  exact he
/-- A node over expressions. -/
theorem mkE {k : Int} {n : Int} {kids : List Nd} (hk : kidsOK k kids.length) (he : 13 ≤ k ∧ k ≤ 26) (h18 : k ≠ 18) (h14 : k ≠ 14) (h13 : k = 13 → 0 ≤ n ∧ n ≤ 9223372036854775807) (h22 : k = 22 → (opOf n).isSome = true) (h0 : k ≠ 22 → k ≠ 13 → n = 0) (h : ∀ y ∈ kids, okE y) : okE ⟨k, [], n, kids⟩ := by
  refine ⟨?_, he⟩
  rw [isN]
  refine ⟨hk, fun c => by simp only [hasName] at c; omega, fun _ _ => rfl, ⟨h22, fun c => absurd c h14⟩, h13, h0, fun c => by omega, fun c => by omega, ?_⟩
  rw [isN_go]
  intro j y hy
  have := h y (List.mem_of_getElem? hy)
  exact ⟨fits_e (by omega) _ _ _ this.2, this.1⟩
theorem mkName {t : List UInt8} (h : nameB t = true) : okE ⟨18, t, 0, []⟩ := by
  refine ⟨?_, by show (13 : Int) ≤ 18 ∧ (18 : Int) ≤ 26; omega⟩
  rw [isN]
  refine ⟨by unfold kidsOK; simp, fun _ => h, fun c => absurd (by simp [hasName]) c, ⟨fun c => by omega, fun c => by omega⟩, fun c => by omega, fun _ _ => rfl, fun c => by omega, fun c => by omega, ?_⟩
  rw [isN_go]
  intro j y hy
  simp at hy
theorem mkText {t : List UInt8} (h : quotB t = true) : okE ⟨14, t, 0, []⟩ := by
  refine ⟨?_, by show (13 : Int) ≤ 14 ∧ (14 : Int) ≤ 26; omega⟩
  rw [isN]
  refine ⟨by unfold kidsOK; simp, fun c => by simp only [hasName] at c; omega, fun _ c => absurd rfl c, ⟨fun c => by omega, fun _ => h⟩, fun c => by omega, fun _ _ => rfl, fun c => by omega, fun c => by omega, ?_⟩
  rw [isN_go]
  intro j y hy
  simp at hy

theorem op_of_at {s : List UInt8} {o : Int} {k : Nat} (h : opAt s = some (o, k)) : opOf o = some (s, k) ∧ s ≠ [] := by
  unfold opAt at h
  cases hf : opsL.find? (fun p => p.1 == s) with
  | none => rw [hf] at h; cases h
  | some p =>
    rw [hf] at h
    obtain ⟨s', o', k'⟩ := p
    have h1 := List.mem_of_find?_eq_some hf
    have h2 := List.find?_some hf
    simp at h h2
    obtain ⟨rfl, rfl⟩ := h
    subst h2
    have : ∀ p ∈ opsL, opOf p.2.1 = some (p.1, p.2.2) ∧ p.1 ≠ [] := by decide
    exact this _ h1
theorem cost_op {o : Int} {s : List UInt8} {k : Nat} (h : opOf o = some (s, k)) (l : List PT) : cost (opT o :: l) = s.length + 1 + cost l := by
  unfold opT
  rw [h]
  simp only
  by_cases c : o = 20 ∨ o = 21
  · rw [if_pos c]; exact cost_w s l
  · rw [if_neg c]; exact cost_s s l

/-- What a numeral that is one spells is written as it was. -/
theorem dec_of : ∀ (m : Nat) (l : List UInt8), l.length ≤ m → l ≠ [] → l.all digB = true → (1 < l.length → l.head? ≠ some 48) → Lib.decDigits (numV l) = l
  | 0, l, h, h0, _, _ => absurd (List.eq_nil_of_length_eq_zero (by omega)) h0
  | m + 1, l, h, h0, ha, hz => by
    obtain ⟨q, c, rfl⟩ : ∃ q c, l = q ++ [c] := ⟨l.dropLast, l.getLast h0, (List.dropLast_concat_getLast _).symm⟩
    have hc := dig_lt (by simp only [List.all_append, List.all_cons, List.all_nil, Bool.and_true, Bool.and_eq_true] at ha; exact ha.2)
    have hq : q.all digB = true := by simp only [List.all_append, Bool.and_eq_true] at ha; exact ha.1
    have ec : UInt8.ofNat (48 + (c.toNat - 48)) = c := by
      rw [show 48 + (c.toNat - 48) = c.toNat by omega]; exact UInt8.ofNat_toNat
    rw [numV_snoc, Lib.decDigits]
    by_cases hqe : q = []
    · subst hqe
      have e0 : numV [] = 0 := rfl
      rw [e0, dif_pos (by omega)]
      simp only [Nat.zero_mul, Nat.zero_add, List.nil_append]
      rw [ec]
    · have hpos : 0 < numV q := by
        cases q with
        | nil => exact absurd rfl hqe
        | cons d r =>
          have hd := dig_lt (by simp only [List.all_cons, Bool.and_eq_true] at hq; exact hq.1)
          have hd2 : d ≠ 48 := fun e => hz (by simp) (by simp [e])
          have hd3 : d.toNat ≠ 48 := fun e => hd2 (UInt8.toNat_inj.1 e)
          have := numV_ge d r (by omega)
          have := Nat.pow_pos (n := r.length) (show 0 < 10 by omega)
          omega
      rw [dif_neg (by omega)]
      have e1 : (numV q * 10 + (c.toNat - 48)) / 10 = numV q := by omega
      have e2 : (numV q * 10 + (c.toNat - 48)) % 10 = c.toNat - 48 := by omega
      rw [e1, e2, ec, dec_of m q (by simp at h; omega) hqe hq (fun hl => by
        have := hz (by simp; omega)
        cases q with
        | nil => exact absurd rfl hqe
        | cons d r => simpa using this)]

/-- What a token of a number is. -/
theorem num_of_valid {t : List UInt8} (h : valid (2, t)) : Lib.decDigits (numV t) = t ∧ numV t ≤ 9223372036854775807 := by
  have hb : bytesOf (2, t) = t := by unfold bytesOf; rw [if_neg (by show ¬ (2 : Int) = 3; decide)]
  have h1 := h.1
  rw [hb] at h1
  cases t with
  | nil => simp [tokR] at h1
  | cons c r =>
    unfold tokR at h1
    simp only at h1
    split at h1
    · split at h1 <;> cases h1
    split at h1
    · split at h1
      · rename_i hz
        obtain ⟨_, e2, _⟩ := TokR.inj h1
        rw [e2] at hz
        unfold numE at hz
        split at hz
        · omega
        · rename_i ha
          split at hz
          · omega
          · rename_i h0
            split at hz
            · omega
            · rename_i hm
              exact ⟨dec_of _ (c :: r) (Nat.le_refl _) (by simp) (by simpa using ha) (fun hl he => h0 ⟨hl, he⟩), by omega⟩
      · cases h1
    split at h1
    · split at h1
      · split at h1
        · cases h1
        · have := (TokR.inj h1).1; omega
      · cases h1
    split at h1
    · cases h1
    · have := (TokR.inj h1).1; omega
theorem text_of_valid {t : List UInt8} (h : valid (3, t)) : quotB t = true := by
  have hb : bytesOf (3, t) = 34 :: (t ++ [34]) := by unfold bytesOf; rw [if_pos rfl]
  have h1 := h.1
  rw [hb] at h1
  unfold tokR at h1
  simp only at h1
  rw [if_neg (by decide), if_neg (by decide), if_pos (by decide)] at h1
  split at h1
  · split at h1
    · cases h1
    · rename_i h3
      obtain ⟨_, e2, e3⟩ := TokR.inj h1
      have hl : runN txtB (t ++ [34]) = t.length := by simp at e3; omega
      rw [hl] at h3
      simp only [quotB, Bool.and_eq_true, decide_eq_true_eq]
      refine ⟨?_, by omega⟩
      rw [List.all_eq_true]
      intro c hc
      obtain ⟨i, hi, hi'⟩ := List.getElem_of_mem hc
      refine runN_all txtB (t ++ [34]) i (by omega) c ?_
      rw [List.getElem?_append_left hi, List.getElem?_eq_getElem hi, hi']
  · cases h1

end Go.Proofs.YtbofdfdmikhanaaGreatDoor
