/- What is known of a text that was read. -/
import Derived.Test.YtnnppenlfocgiaaGreatDoorK38
import Derived.Test.YtnnppenlfocgiaaGreatDoorK12
namespace Go.Proofs.YtnnppenlfocgiaaGreatDoor
open Go

/-- What is known of a program that was read. -/
theorem parse_sound {l : List UInt8} {n : Nd} (h : parseR l = .inr n) : isN n ∧ n.k = 1 ∧ manyN n ≤ 600 := by
  unfold parseR at h
  split at h
  · cases h
  · rename_i ts hts
    obtain ⟨_, hv, _⟩ := toks_of hts
    split at h
    · cases h
    · cases h
    · rename_i m l1 hP
      cases hf : fitB m with
      | false => rw [hf, if_neg (by decide)] at h; cases h
      | true =>
        rw [hf, if_pos rfl] at h
        cases h
        obtain ⟨h1, h2, _⟩ := unit_sound ⟨64012, hP⟩ hv
        unfold fitB at hf
        simp at hf
        exact ⟨h1, h2, hf.2⟩
theorem parse_code {l : List UInt8} {c : Int} {a : Nat} (h : parseR l = .inl (c, a)) : c ≠ 0 := by
  unfold parseR at h
  split at h
  · rename_i x hx
    cases h
    exact code_of hx
  · rename_i ts hts
    obtain ⟨_, _, r, hr⟩ := toks_of hts
    split at h
    · rename_i hP
      rw [hP] at hr
      cases hr
    · cases h; decide
    · rename_i m l1 hP
      cases hf : fitB m with
      | true => rw [hf, if_pos rfl] at h; cases h
      | false => rw [hf, if_neg (by decide)] at h; cases h; decide
end Go.Proofs.YtnnppenlfocgiaaGreatDoor
