/- The document's own digits of a number. -/
import Derived.Test.YthpgbienakcbeaaGreatDoorS07
import Derived.Lib.ItoaLen
namespace Go.Proofs.YthpgbienakcbeaaGreatDoor
open Go.RowKit Go
set_option maxRecDepth 100000
set_option maxHeartbeats 8000000
set_option linter.all false
variable {x r q n : Int} {a b t : ByteArray} {c : UInt8}
theorem d1h (wr : World) (c : Int) (h0 : 0 ≤ c) (h1 : c ≤ 255) :
  Sem.run Tryz.prog (convert 146 9 (.slice (some ⟨wr.heap.size, 0, none⟩) 1 1)) (wr.alloc (.cells #[.int .u8 c] 5)) = .ok (.string ⟨#[UInt8.ofNat c.toNat]⟩) (wr.alloc (.cells #[.int .u8 c] 5)) :=
 run_convert_bytes_back _ 146 9 5 ⟨wr.heap.size, 0, none⟩ 1 [UInt8.ofNat c.toNat] Tryz.underlying146 Tryz.underlying5 Tryz.underlying9 (by
  intro j hj
  obtain rfl : j = 0 := by simpa using hj
  have e : ((UInt8.ofNat c.toNat).toNat : Int) = c := by
   rw [UInt8.toNat_ofNat_of_lt' (by show c.toNat < 256; omega)]; omega
  simp only [List.getElem_cons_zero, e]
  exact World.cell?_alloc_at _ _ _ _ rfl)
theorem b3u (hr : x.tmod 10 = r) (hq : x.tdiv 10 = q) : r.natAbs = x.natAbs % 10 ∧ q.natAbs = x.natAbs / 10 := by
 subst hr; subst hq
 exact ⟨by rw [Int.natAbs_tmod]; rfl, by rw [Int.natAbs_tdiv]; rfl⟩
theorem b5b (hr : x.tmod 10 = r) (hq : x.tdiv 10 = q) (h : q ≠ 0) : Lib.decDigits x.natAbs = Lib.decDigits q.natAbs ++ [UInt8.ofNat (48 + r.natAbs)] := by
 obtain ⟨e1, e2⟩ := b3u hr hq
 rw [Lib.decDigits, dif_neg (by omega), e1, e2]
theorem b5c (hr : x.tmod 10 = r) (hq : x.tdiv 10 = q) (h : q = 0) : Lib.decDigits x.natAbs = [UInt8.ofNat (48 + r.natAbs)] := by
 obtain ⟨e1, e2⟩ := b3u hr hq
 rw [Lib.decDigits, dif_pos (by omega), e1, Nat.mod_eq_of_lt (by omega)]
theorem b5d (h : a.data.toList = b.data.toList) : a = b := WideShapes.bytes_inj h
theorem a8u (a b : ByteArray) : (a ++ b).data.toList = a.data.toList ++ b.data.toList := by simp
theorem b1f (n : Int) : Lib.itoa n = if n < 0 then 45 :: Lib.decDigits n.natAbs else Lib.decDigits n.natAbs := by
 unfold Lib.itoa
 by_cases h : n < 0
 ·rw [if_pos h, if_pos h]
 ·rw [if_neg h, if_neg h, show n.toNat = n.natAbs by omega]
theorem c8b (n : Int) (hn : -9223372036854775808 ≤ n) (hn' : n ≤ 9223372036854775807) : (Lib.decDigits n.natAbs).length ≤ 21 := by
 have h := Lib.itoa_length_le n hn hn'
 rw [b1f] at h
 split at h
 ·simp at h; omega
 ·exact h
theorem b1g (h : a = b) : Ending.returned (.string a) = .returned (.string b) := by rw [h]
theorem b8b {D X : List UInt8} (h : D = X ++ [c] ++ t.data.toList) : D = X ++ (ByteArray.mk #[c] ++ t).data.toList := by
 rw [a8u]; simpa using h
theorem b8c (h : n < 0) (hD : Lib.decDigits n.natAbs = [c] ++ t.data.toList) : ByteArray.mk #[45] ++ (ByteArray.mk #[c] ++ t) = ⟨(Lib.itoa n).toArray⟩ := by
 refine b5d ?_
 rw [a8u, a8u, b1f, if_pos h, hD]; rfl
theorem b8d (h : ¬ n < 0) (hD : Lib.decDigits n.natAbs = [c] ++ t.data.toList) : ByteArray.mk #[c] ++ t = ⟨(Lib.itoa n).toArray⟩ := by
 refine b5d ?_
 rw [a8u, b1f, if_neg h, hD]
theorem b6o (n : Int) (w : World) (hn : -9223372036854775808 ≤ n) (hn' : n ≤ 9223372036854775807) :
  Calls Tryz.prog 123 #[.int .i64 n] w fun e w' => e = .returned (.string ⟨(Lib.itoa n).toArray⟩) ∧ Below w.heap.size w w' := by
 have hlen := Lib.hid (c8b n hn hn')
 go_enter Tryz.func123, Tryz.ntmps123
 go_wp2
 go_loopw [3, 4] (fun s l wr => ∃ (x : Int) (t : ByteArray), l = .int .i64 x ∧ s = .string t ∧ Hid ((0 ≤ n → 0 ≤ x ∧ x ≤ n) ∧ (n ≤ 0 → n ≤ x ∧ x ≤ 0)) ∧ Hid (Lib.decDigits n.natAbs = Lib.decDigits x.natAbs ++ t.data.toList) ∧ Below w.heap.size w wr) (fun _ l _ => (intOf l).natAbs)
 case atStart => exact ⟨n, ⟨#[]⟩, rfl, rfl, ⟨fun _ => ⟨by omega, by omega⟩, fun _ => ⟨by omega, by omega⟩⟩, by simp [Hid], Below.refl _ _⟩
 case round =>
  obtain ⟨x, t, rfl, rfl, H1, H3, hb⟩ := hrel
  obtain ⟨r, hr⟩ := exq (x.tmod 10)
  obtain ⟨q, hq⟩ := exq (x.tdiv 10)
  obtain ⟨er, eq⟩ := b3u hr hq
  have hr1 : -9 ≤ r := by omega
  have hr2 : r ≤ 9 := by omega
  have hx := H1.out
  have hsz : t.size ≤ 21 := by
   have e := congrArg List.length H3.out
   rw [List.length_append] at e
   have := hlen.out
   have e3 : t.data.toList.length = t.size := rfl
   omega
  have hq1 : -9223372036854775808 ≤ q := by omega
  have hq2 : q ≤ 9223372036854775807 := by omega
  have HS : Hid ((0 ≤ x → 0 ≤ q ∧ q ≤ x) ∧ (x ≤ 0 → x ≤ q ∧ q ≤ 0)) := Lib.hid ⟨fun a => by have := Int.tdiv_nonneg a (show (0:Int) ≤ 10 by decide); omega, fun a => by have := Int.tdiv_nonneg (show 0 ≤ -x by omega) (show (0:Int) ≤ 10 by decide); rw [Int.neg_tdiv] at this; omega⟩
  have HE := Lib.hid er
  have HQ := Lib.hid eq
  have HR := Lib.hid hr
  clear er eq hx
  by_cases s0 : r < 0
  ·have hcv := d1h wr (48 + -r) (by omega) (by omega)
   have HC : Hid ((48 + -r).toNat = 48 + r.natAbs) := Lib.hid (by omega)
   by_cases q0 : q = 0
   ·have HZ := Lib.hid (b5c hr hq q0)
    by_cases n0 : n < 0
    ·go_wp2
     go_ret
     refine ⟨b1g (b8c n0 ?_), a0c hb _⟩
     rw [H3.out, HZ.out, HC.out]
    ·go_wp2
     go_ret
     refine ⟨b1g (b8d (by omega) ?_), a0c hb _⟩
     rw [H3.out, HZ.out, HC.out]
   ·have HZ := Lib.hid (b5b hr hq q0)
    go_wp2
    go_roundw
    case rel =>
     refine ⟨q, _, rfl, rfl, ?_, ?_, a0c hb _⟩
     ·have a := H1.out; have b := HS.out; refine Lib.hid ⟨fun _ => ?_, fun _ => ?_⟩ <;> omega
     ·refine Lib.hid (b8b ?_)
      rw [H3.out, HZ.out, HC.out]
    case measure =>
     have a := HQ.out
     simp [intOf]
     omega
  ·have hcv := d1h wr (48 + r) (by omega) (by omega)
   have HC : Hid ((48 + r).toNat = 48 + r.natAbs) := Lib.hid (by omega)
   by_cases q0 : q = 0
   ·have HZ := Lib.hid (b5c hr hq q0)
    by_cases n0 : n < 0
    ·go_wp2
     go_ret
     refine ⟨b1g (b8c n0 ?_), a0c hb _⟩
     rw [H3.out, HZ.out, HC.out]
    ·go_wp2
     go_ret
     refine ⟨b1g (b8d (by omega) ?_), a0c hb _⟩
     rw [H3.out, HZ.out, HC.out]
   ·have HZ := Lib.hid (b5b hr hq q0)
    go_wp2
    go_roundw
    case rel =>
     refine ⟨q, _, rfl, rfl, ?_, ?_, a0c hb _⟩
     ·have a := H1.out; have b := HS.out; refine Lib.hid ⟨fun _ => ?_, fun _ => ?_⟩ <;> omega
     ·refine Lib.hid (b8b ?_)
      rw [H3.out, HZ.out, HC.out]
    case measure =>
     have a := HQ.out
     simp [intOf]
     omega
end Go.Proofs.YthpgbienakcbeaaGreatDoor
