/- How many tokens a node has; its text as it is joined. How long a node's text is. -/
import Derived.Test.YtbdkiimggggndaaGreatDoorJ07
import Derived.Test.YtbdkiimggggndaaGreatDoorJ14
import Derived.Lib.Join
import Derived.Test.YtbdkiimggggndaaGreatDoorJ06
import Derived.Lib.ItoaLen
namespace Go.Proofs.YtbdkiimggggndaaGreatDoor
open Go

def sumL : List (Nat × List PT) → Nat
  | [] => 0
  | p :: l => p.2.length + 3 + sumL l
theorem sumL_app (a b : List (Nat × List PT)) : sumL (a ++ b) = sumL a + sumL b := by
  induction a with
  | nil => simp [sumL]
  | cons p l ih => simp [sumL, ih]; omega
theorem comma_len : ∀ l : List (Nat × List PT), (commaT l).length ≤ sumL l
  | [] => by simp [commaT]
  | [p] => by simp [commaT, sumL]
  | p :: q :: l => by
    have ih := comma_len (q :: l)
    rw [commaT]
    simp [sumL] at ih ⊢
    omega
theorem round_len (l : List (Nat × List PT)) : (roundT l).length ≤ 2 + sumL l := by
  unfold roundT
  split
  · simp
  · have := comma_len l
    simp
    omega
theorem all_len (l : List (Nat × List PT)) : (allT l).length ≤ sumL l := by
  induction l with
  | nil => simp [allT]
  | cons p l ih => simp [allT, sumL] at ih ⊢; omega
theorem at_len (n : Nat) (p : Nat × List PT) : (atT n p).length ≤ p.2.length + 2 := by
  unfold atT
  split
  · simp [parT]
  · omega
theorem comb_len (k : Int) (t : List UInt8) (n : Int) (l : List (Nat × List PT)) : (comb k t n l).length ≤ 8 + sumL l := by
  unfold comb
  by_cases h1 : k = 1 ∨ k = 4
  · rw [if_pos h1]
    have := all_len l
    omega
  rw [if_neg h1]
  by_cases h6 : k = 2
  · rw [if_pos h6]
    rcases List.eq_nil_or_concat l with rfl | ⟨a, x, rfl⟩
    · simp [roundT, sumL]
    · have := round_len a
      rw [List.concat_eq_append, sumL_app]
      simp [sumL]
      omega
  rw [if_neg h6]
  by_cases h15 : k = 3 ∨ k = 18
  · rw [if_pos h15]
    simp
    omega
  rw [if_neg h15]
  by_cases h20 : k = 13
  · rw [if_pos h20]
    simp
    omega
  rw [if_neg h20]
  by_cases h25 : k = 14
  · rw [if_pos h25]
    simp
    omega
  rw [if_neg h25]
  by_cases h30 : k = 15
  · rw [if_pos h30]
    simp
    omega
  rw [if_neg h30]
  by_cases h35 : k = 16
  · rw [if_pos h35]
    simp
    omega
  rw [if_neg h35]
  by_cases h40 : k = 17
  · rw [if_pos h40]
    simp
    omega
  rw [if_neg h40]
  by_cases h45 : k = 19
  · rw [if_pos h45]
    simp
    omega
  rw [if_neg h45]
  by_cases h50 : k = 26
  · rw [if_pos h50]
    have := round_len l
    simp
    omega
  rw [if_neg h50]
  match l with
  | [] => simp
  | p :: m =>
    dsimp only
    by_cases h60 : k = 21
    · rw [if_pos h60]
      have h1 := at_len 7 p
      have h2 := round_len m
      simp [sumL] at h1 h2 ⊢
      omega
    rw [if_neg h60]
    by_cases h67 : k = 23
    · rw [if_pos h67]
      have h1 := at_len 6 p
      simp [sumL] at h1 ⊢
      omega
    rw [if_neg h67]
    by_cases h73 : k = 24
    · rw [if_pos h73]
      have h1 := at_len 6 p
      simp [sumL] at h1 ⊢
      omega
    rw [if_neg h73]
    by_cases h79 : k = 25
    · rw [if_pos h79]
      have h1 := at_len 6 p
      simp [sumL] at h1 ⊢
      omega
    rw [if_neg h79]
    by_cases h85 : k = 5
    · rw [if_pos h85]
      simp [sumL]
      omega
    rw [if_neg h85]
    by_cases h90 : k = 7
    · rw [if_pos h90]
      simp [sumL]
      omega
    rw [if_neg h90]
    by_cases h95 : k = 11
    · rw [if_pos h95]
      simp [sumL]
      omega
    rw [if_neg h95]
    by_cases h100 : k = 12
    · rw [if_pos h100]
      simp [sumL]
      omega
    rw [if_neg h100]
    match m with
    | [] => simp
    | q :: m' =>
      dsimp only
      by_cases h109 : k = 20
      · rw [if_pos h109]
        have h1 := at_len 7 p
        simp [sumL] at h1 ⊢
        omega
      rw [if_neg h109]
      by_cases h115 : k = 22
      · rw [if_pos h115]
        have h1 := at_len (if lvlN n = 2 then 3 else lvlN n) p
        have h2 := at_len (lvlN n + 1) q
        simp [sumL] at h1 h2 ⊢
        omega
      rw [if_neg h115]
      by_cases h122 : k = 6
      · rw [if_pos h122]
        simp [sumL]
        omega
      rw [if_neg h122]
      by_cases h127 : k = 9
      · rw [if_pos h127]
        simp [sumL]
        omega
      rw [if_neg h127]
      by_cases h132 : k = 8
      · rw [if_pos h132]
        cases m' with
        | nil => simp [sumL]; omega
        | cons r m2 => simp [sumL]; omega
      rw [if_neg h132]
      match m' with
      | [] => simp
      | r :: m2 => simp [sumL]; omega
theorem show_len_le (x : Nd) : (showT x).length + 3 ≤ 11 * manyN x := by
  refine nd_ind (m := fun x => (showT x).length + 3 ≤ 11 * manyN x) (fun k t n ks ih => ?_) x
  rw [showT_eq]
  have h1 := comb_len k t n (ks.map info)
  have h2 : sumL (ks.map info) ≤ 11 * manyN.go ks := by
    clear h1
    induction ks with
    | nil => simp [sumL]
    | cons y l ihl =>
      have hy := ih y (by simp)
      have hl := ihl (fun z hz => ih z (by simp [hz]))
      simp only [List.map_cons, sumL, manyN.go]
      have : (info y).2.length = (showT y).length := rfl
      omega
  have h3 : manyN ⟨k, t, n, ks⟩ = manyN.go ks + 1 := rfl
  omega
theorem join_text : ∀ ts : List PT, Lib.join (ts.map bytesOf) [32] = textT ts
  | [] => rfl
  | [p] => by simp [textT, Lib.join_one]
  | p :: q :: l => by
    have ih := join_text (q :: l)
    rw [textT, ← ih]
    simp [Lib.join, List.intercalate]
end Go.Proofs.YtbdkiimggggndaaGreatDoor
namespace Go.Proofs.YtbdkiimggggndaaGreatDoor
open Go

/-- A token of few bytes. -/
def shortT (p : PT) : Prop := (bytesOf p).length ≤ 400
theorem short_name {s : List UInt8} (h : nameB s = true) : shortT (wt s) := by
  simp only [nameB, Bool.and_eq_true, decide_eq_true_eq] at h
  unfold shortT bytesOf
  rw [if_neg (by show ¬ (1 : Int) = 3; decide)]
  show s.length ≤ 400
  omega
theorem short_num {u : Nat} (h : u ≤ 9223372036854775807) : shortT (2, digitsN u) := by
  unfold shortT bytesOf
  rw [if_neg (by show ¬ (2 : Int) = 3; decide)]
  show (digitsN u).length ≤ 400
  have h1 := Lib.itoa_length_le (u : Int) (by omega) (by omega)
  rw [Lib.itoa_nonneg] at h1
  unfold digitsN
  omega
theorem short_text {t : List UInt8} (h : quotB t = true) : shortT (3, t) := by
  simp only [quotB, Bool.and_eq_true, decide_eq_true_eq] at h
  unfold shortT bytesOf
  rw [if_pos rfl]
  simp
  omega
theorem short_op {o : Int} (h : (opOf o).isSome = true) : shortT (opT o) := by
  obtain ⟨p, hp⟩ := Option.isSome_iff_exists.1 h
  have h3 : p.1.length ≤ 3 := by
    unfold opOf at hp
    obtain ⟨q, hq, rfl⟩ := Option.map_eq_some_iff.1 hp
    have all : ∀ q ∈ opsL, q.1.length ≤ 3 := by decide
    exact all q (List.mem_of_find?_eq_some hq)
  obtain ⟨p1, p2⟩ := p
  unfold shortT opT
  rw [hp]
  dsimp only at h3 ⊢
  by_cases hc : o = 20 ∨ o = 21
  · simp [bytesOf, hc]; omega
  · simp [bytesOf, hc]; omega
def allH (ts : List PT) : Prop := ∀ p ∈ ts, shortT p
theorem allH_app {a b : List PT} (ha : allH a) (hb : allH b) : allH (a ++ b) := fun p hp => (List.mem_append.1 hp).elim (ha p) (hb p)
theorem allH_cons {p : PT} {l : List PT} (hp : shortT p) (hl : allH l) : allH (p :: l) := fun q hq => by
  simp at hq
  rcases hq with rfl | hq
  · exact hp
  · exact hl q hq
theorem allH_nil : allH [] := fun p hp => by simp at hp
theorem allH_par {l : List PT} (h : allH l) : allH (parT l) := allH_cons (by unfold shortT; decide) (allH_app h (allH_cons (by unfold shortT; decide) allH_nil))
theorem allH_at {x : Nd} (h : allH (showT x)) (n : Nat) : allH (atT n (info x)) := by
  unfold atT info
  simp only
  split
  · exact allH_par h
  · exact h
theorem allH_comma : ∀ {l : List Nd}, (∀ x ∈ l, allH (showT x)) → allH (commaT (l.map info))
  | [], _ => allH_nil
  | [x], h => h x (by simp)
  | x :: y :: l, h => by
    have ih := allH_comma (l := y :: l) (fun z hz => h z (by simp at hz ⊢; exact .inr hz))
    have e : commaT ((x :: y :: l).map info) = showT x ++ st S.cm :: commaT ((y :: l).map info) := by simp [commaT, info]
    rw [e]
    exact allH_app (h x (by simp)) (allH_cons (by unfold shortT; decide) ih)
theorem allH_round {l : List Nd} (h : ∀ x ∈ l, allH (showT x)) : allH (roundT (l.map info)) := by
  cases l with
  | nil => exact allH_cons (by unfold shortT; decide) (allH_cons (by unfold shortT; decide) allH_nil)
  | cons x l =>
    have e : roundT ((x :: l).map info) = st S.lp :: (commaT ((x :: l).map info) ++ [st S.rp]) := by simp [roundT]
    rw [e]
    exact allH_cons (by unfold shortT; decide) (allH_app (allH_comma h) (allH_cons (by unfold shortT; decide) allH_nil))
theorem allH_all {l : List Nd} (h : ∀ x ∈ l, allH (showT x)) : allH (allT (l.map info)) := by
  intro p hp
  simp only [allT, List.mem_flatMap, List.mem_map] at hp
  obtain ⟨q, ⟨x, hx, rfl⟩, hp⟩ := hp
  exact h x hx p hp

theorem show_short (x : Nd) : isN x → allH (showT x) := by
  refine nd_ind (m := fun x => isN x → allH (showT x)) (fun k t n kids ih h => ?_) x
  rw [isN] at h
  obtain ⟨h1, h2, h3, h4, h5, h6, h7, h8, h9⟩ := h
  rw [isN_go] at h9
  simp only [hasName] at h2 h3
  have hk : ∀ y ∈ kids, allH (showT y) := fun y hy => by
    obtain ⟨j, hj, hj'⟩ := List.getElem_of_mem hy
    exact ih y hy (h9 j y (by rw [List.getElem?_eq_getElem hj, hj'])).2
  have kw : ∀ s, shortT (wt s) → allH [wt s] := fun s h => allH_cons h allH_nil
  have ks : ∀ s, shortT (st s) → allH [st s] := fun s h => allH_cons h allH_nil
  unfold kidsOK at h1
  rcases h1 with rfl | rfl | ⟨rfl, hl⟩ | ⟨rfl | rfl | rfl | rfl | rfl | rfl | rfl | rfl, hl⟩ | ⟨rfl | rfl | rfl | rfl | rfl | rfl | rfl, hl⟩ | ⟨rfl, hl⟩ | ⟨rfl | rfl | rfl | rfl | rfl, hl⟩ | ⟨rfl, hl⟩ | ⟨rfl, hl⟩
  · have e : showT ⟨1, t, n, kids⟩ = allT (kids.map info) := by rw [showT_eq]; rfl
    rw [e]; exact allH_all hk
  · have e : showT ⟨4, t, n, kids⟩ = allT (kids.map info) := by rw [showT_eq]; rfl
    rw [e]; exact allH_all hk
  · obtain ⟨ps, b, rfl⟩ : ∃ ps b, kids = ps ++ [b] := ⟨kids.dropLast, kids.getLast (by intro e; rw [e] at hl; simp at hl), (List.dropLast_concat_getLast _).symm⟩
    have hsh : showT ⟨2, t, n, ps ++ [b]⟩ = [wt W.function_, wt t] ++ roundT (ps.map info) ++ showT b ++ [wt W.end_] := by
      rw [showT_eq]
      unfold comb
      rw [if_neg (by decide), if_pos rfl]
      simp [info]
    rw [hsh]
    exact allH_app (allH_app (allH_app (allH_cons (by unfold shortT; decide) (kw _ (short_name (h2 (by omega))))) (allH_round (fun x hx => hk x (by simp [hx])))) (hk b (by simp))) (kw _ (by unfold shortT; decide))
  all_goals first
    | (obtain rfl := List.length_eq_zero_iff.1 hl; rw [showT_eq]; exact kw _ (short_name (h2 (by omega))))
    | (obtain rfl := List.length_eq_zero_iff.1 hl; rw [showT_eq]; exact allH_cons (short_num (by have := h5 rfl; omega)) allH_nil)
    | (obtain rfl := List.length_eq_zero_iff.1 hl; rw [showT_eq]; exact allH_cons (short_text (h4.2 rfl)) allH_nil)
    | (obtain rfl := List.length_eq_zero_iff.1 hl; rw [showT_eq]; exact kw _ (by unfold shortT; decide))
    | (obtain rfl := List.length_eq_zero_iff.1 hl; rw [showT_eq]; exact allH_cons (by unfold shortT; decide) (ks _ (by unfold shortT; decide)))
    | skip
  · match kids, hl, hk with
    | [y], _, hk =>
      have hy := hk y (by simp)
      rw [show_local]
      exact allH_app (allH_app (allH_cons (by unfold shortT; decide) (allH_cons (short_name (h2 (by omega))) (ks _ (by unfold shortT; decide)))) hy) (ks _ (by unfold shortT; decide))
  · match kids, hl, hk with
    | [y], _, hk =>
      have hy := hk y (by simp)
      rw [show_do]
      exact allH_app hy (ks _ (by unfold shortT; decide))
  · match kids, hl, hk with
    | [y], _, hk =>
      have hy := hk y (by simp)
      rw [show_return]
      exact allH_cons (by unfold shortT; decide) (allH_app hy (ks _ (by unfold shortT; decide)))
  · match kids, hl, hk with
    | [y], _, hk =>
      have hy := hk y (by simp)
      rw [show_emit]
      exact allH_cons (by unfold shortT; decide) (allH_app hy (ks _ (by unfold shortT; decide)))
  · match kids, hl, hk with
    | [y], _, hk =>
      have hy := hk y (by simp)
      rw [show_not]
      exact allH_cons (by unfold shortT; decide) (allH_at hy 6)
  · match kids, hl, hk with
    | [y], _, hk =>
      have hy := hk y (by simp)
      rw [show_neg]
      exact allH_cons (by unfold shortT; decide) (allH_at hy 6)
  · match kids, hl, hk with
    | [y], _, hk =>
      have hy := hk y (by simp)
      rw [show_len]
      exact allH_cons (by unfold shortT; decide) (allH_at hy 6)
  · match kids, hl, hk with
    | [y, z, v], _, hk =>
      have hy := hk y (by simp)
      have hz := hk z (by simp)
      have hv := hk v (by simp)
      rw [show_for]
      exact allH_app (allH_app (allH_cons (by unfold shortT; decide) (allH_cons (short_name (h2 (by omega))) (ks _ (by unfold shortT; decide)))) hy) (allH_cons (by unfold shortT; decide) (allH_app hz (allH_cons (by unfold shortT; decide) (allH_app hv (kw _ (by unfold shortT; decide))))))
  · match kids, hl, hk with
    | [y, z], _, hk =>
      have hy := hk y (by simp)
      have hz := hk z (by simp)
      rw [show_set]
      exact allH_app hy (allH_cons (by unfold shortT; decide) (allH_app hz (ks _ (by unfold shortT; decide))))
  · match kids, hl, hk with
    | [y, z], _, hk =>
      have hy := hk y (by simp)
      have hz := hk z (by simp)
      rw [show_while]
      exact allH_cons (by unfold shortT; decide) (allH_app hy (allH_cons (by unfold shortT; decide) (allH_app hz (kw _ (by unfold shortT; decide)))))
  · match kids, hl, hk with
    | [y, z], _, hk =>
      have hy := hk y (by simp)
      have hz := hk z (by simp)
      rw [show_index]
      exact allH_app (allH_at hy 7) (allH_cons (by unfold shortT; decide) (allH_app hz (ks _ (by unfold shortT; decide))))
  · match kids, hl, hk with
    | [y, z], _, hk =>
      have hy := hk y (by simp)
      have hz := hk z (by simp)
      rw [show_op]
      exact allH_app (allH_at hy _) (allH_cons (short_op (h4.1 rfl)) (allH_at hz _))
  · match kids, hl, hk with
    | [y, z], _, hk =>
      have hy := hk y (by simp)
      have hz := hk z (by simp)
      rw [show_next]
      exact allH_cons (by unfold shortT; decide) (allH_cons (by unfold shortT; decide) (allH_app hy (allH_cons (by unfold shortT; decide) (allH_app hz (ks _ (by unfold shortT; decide))))))
  · match kids, hl, hk with
    | [y, z], _, hk =>
      have hy := hk y (by simp)
      have hz := hk z (by simp)
      rw [show_if2]
      exact allH_cons (by unfold shortT; decide) (allH_app hy (allH_cons (by unfold shortT; decide) (allH_app hz (kw _ (by unfold shortT; decide)))))
    | [y, z, v], _, hk =>
      have hy := hk y (by simp)
      have hz := hk z (by simp)
      have hv := hk v (by simp)
      rw [show_if3]
      exact allH_cons (by unfold shortT; decide) (allH_app hy (allH_cons (by unfold shortT; decide) (allH_app hz (allH_app (allH_cons (by unfold shortT; decide) hv) (kw _ (by unfold shortT; decide))))))
  · match kids, hl, hk with
    | y :: l, _, hk =>
      rw [show_call]
      exact allH_app (allH_at (hk y (by simp)) 7) (allH_round (fun x hx => hk x (by simp [hx])))

theorem text_short : ∀ ts : List PT, allH ts → (textT ts).length ≤ 401 * ts.length
  | [], _ => by simp [textT]
  | [p], h => by
    have := h p (by simp)
    unfold shortT at this
    simp [textT]
    omega
  | p :: q :: l, h => by
    have h1 := h p (by simp)
    have h2 := text_short (q :: l) (fun x hx => h x (by simp at hx ⊢; exact .inr hx))
    unfold shortT at h1
    rw [textT]
    simp at h2 ⊢
    omega
theorem text_le {x : Nd} (h : isN x) (hm : manyN x ≤ 600) : (textT (showT x)).length ≤ 10000000 := by
  have h1 := text_short _ (show_short x h)
  have h2 := show_len_le x
  omega
end Go.Proofs.YtbdkiimggggndaaGreatDoor
