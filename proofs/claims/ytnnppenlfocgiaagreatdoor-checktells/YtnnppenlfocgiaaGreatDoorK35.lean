/- The program's checker: what it knows ahead of all functions. -/
import Derived.Test.YtnnppenlfocgiaaGreatDoorK30
namespace Go.Proofs.YtnnppenlfocgiaaGreatDoor
open Go.RowKit
open Go

theorem funsKV_snoc (fs : List (List UInt8)) : ∀ (l : List (List UInt8)) (i : Nat) (x : List UInt8) (kv : List (List UInt8 × Value)), funsKV fs i (l ++ [x]) kv = (if ((funsKV fs i l kv).lookup x).isSome then funsKV fs i l kv else funsKV fs i l kv ++ [(x, .int .i64 ((i + l.length : Nat) : Int))])
  | [], i, x, kv => by
    show funsKV fs i [x] kv = _
    rw [funsKV, funsKV, funsKV]
    rfl
  | y :: l, i, x, kv => by
    show funsKV fs i (y :: (l ++ [x])) kv = _
    rw [funsKV, funsKV_snoc fs l (i + 1) x]
    rw [show funsKV fs i (y :: l) kv = funsKV fs (i + 1) l (if (kv.lookup y).isSome then kv else kv ++ [(y, .int .i64 (i : Nat))]) by rw [funsKV]]
    rw [show i + 1 + l.length = i + (y :: l).length by simp; omega]
/-- While it is being made. -/
def NI (B fm : Nat) (u : Nd) (ub : Option Addr) (uc : Nat) (W : World) (fs : List (List UInt8)) (j : Nat) (wr : World) : Prop :=
  wr.heap[B]? = some (ckb u ub uc fm none 0 0 none 0 0 0) ∧ wr.heap[fm]? = some (mapObj sk (funsKV fs 0 (fs.take j) [])) ∧ Below W.heap.size W wr
set_option maxRecDepth 20000 in
set_option maxHeartbeats 4000000 in
theorem new_any (u : Nd) (ub : Option Addr) (uc : Nat) (W : World) (hN : NdV (low W) W u (ndv u ub uc)) (hl : u.kids.length ≤ 100000) :
    Calls Tryz.prog 25 #[ndv u ub uc] W fun e W' => ∃ B, e = .returned (.pointer (some ⟨B, 0, none⟩)) ∧ ∃ fm O, Ck W B u ub uc fm O [] [] 0 W' := by
  obtain ⟨k0, t0, n0, ks⟩ := u
  have hK := KA.of hN
  simp only at hl
  have hb0 := ext_alloc (Below.refl W.heap.size W) (nbx ⟨k0, t0, n0, ks⟩ ub uc)
  have hb1 := ext_alloc hb0 (.map #[] 0)
  have gm := alloc_new (W.alloc (nbx ⟨k0, t0, n0, ks⟩ ub uc)) (.map #[] 0)
  rw [World.size_alloc] at gm
  obtain ⟨fm, hfm⟩ : ∃ fm, W.heap.size + 1 = fm := ⟨_, rfl⟩
  rw [hfm] at gm
  have hb2 := ext_alloc hb1 (ckb ⟨k0, t0, n0, ks⟩ ub uc fm none 0 0 none 0 0 0)
  have gB := alloc_new ((W.alloc (nbx ⟨k0, t0, n0, ks⟩ ub uc)).alloc (.map #[] 0)) (ckb ⟨k0, t0, n0, ks⟩ ub uc fm none 0 0 none 0 0 0)
  simp only [World.size_alloc] at gB
  replace gm := block_alloc (ckb ⟨k0, t0, n0, ks⟩ ub uc fm none 0 0 none 0 0 0) gm
  obtain ⟨B, hB⟩ : ∃ B, W.heap.size + 1 + 1 = B := ⟨_, rfl⟩
  rw [hB] at gB
  obtain ⟨V, hV⟩ : ∃ V, ((W.alloc (nbx ⟨k0, t0, n0, ks⟩ ub uc)).alloc (.map #[] 0)).alloc (ckb ⟨k0, t0, n0, ks⟩ ub uc fm none 0 0 none 0 0 0) = V := ⟨_, rfl⟩
  rw [hV] at gm gB hb2
  have hmk : ∀ wx : World, (Instr.makeMap 63 none).run Tryz.prog wx = .ok (.map (some wx.heap.size)) (wx.alloc (.map #[] 0)) := fun wx => by kernel_rfl
  obtain ⟨L, hL⟩ : ∃ L, ks.length = L := ⟨_, rfl⟩
  obtain ⟨fs, hfs⟩ : ∃ fs, ks.map Nd.t = fs := ⟨_, rfl⟩
  have hI : NI B fm ⟨k0, t0, n0, ks⟩ ub uc W fs 0 V := ⟨gB, gm, hb2⟩
  have c3 : V.cell? ⟨B, 3, none⟩ = some (.slice ub ks.length uc) := cell_block gB rfl
  rw [hL] at c3 hl
  replace hL : Hid _ := hL
  replace hfs : Hid _ := hfs
  replace hK : Hid (KA (low W) W ub uc ks) := hK
  replace hB : Hid _ := hB
  replace hfm : Hid _ := hfm
  have hV' : ((W.alloc (.cells #[.int .i64 k0, sk t0, .int .i64 n0, .slice ub ks.length uc] 24)).alloc (.map #[] 0)).alloc (.cells #[.int .i64 k0, sk t0, .int .i64 n0, .slice ub ks.length uc, .map (some (W.heap.size + 1)), .slice none 0 0, .slice none 0 0, .int .i64 0] 66) = V := by rw [hfm.out]; exact hV
  replace hV : Hid _ := hV
  replace hV' : Hid _ := hV'
  go_enter Tryz.func25, Tryz.ntmps25
  go_wp2
  try rw [hV'.out]
  try rw [hB.out]
  clear hmk hb0 hb1 gm gB hb2 c3
  go_loopw [18] (fun ix wr => ∃ j : Nat, j ≤ L ∧ ix = .int .i64 (j : Nat) ∧ NI B fm ⟨k0, t0, n0, ks⟩ ub uc W fs j wr) (fun ix _ => L - (intOf ix).toNat)
  case atStart => exact ⟨0, Nat.zero_le _, rfl, hI⟩
  case round =>
    obtain ⟨j, hj, rfl, gB, gm, hb⟩ := hrel
    clear hI
    by_cases hlt : j < L
    · have hlt' : (j : Int) < (L : Int) := by omega
      have hge : (0 : Int) ≤ (j : Int) := by omega
      have hjk : j < ks.length := by have := hL.out; omega
      obtain ⟨y, hy⟩ : ∃ y, ks[j]? = some y := ⟨_, List.getElem?_eq_getElem hjk⟩
      obtain ⟨g', off, b', cap', eb, v0, v1, v2, v3, hyV⟩ := KA.at hK.out hy
      subst eb
      have hgw := World.block_lt_of_cell? _ _ v0
      simp only at hgw
      have hcell : ∀ i v, W.cell? ⟨g', i, none⟩ = some v → wr.cell? ⟨g', i, none⟩ = some v := fun i v h => (hb.cell (p := ⟨g', i, none⟩) hgw).trans h
      replace v0 := hcell _ _ v0
      replace v1 := hcell _ _ v1
      replace v2 := hcell _ _ v2
      replace v3 := hcell _ _ v3
      have hyf : fs[j]? = some y.t := by rw [← hfs.out, List.getElem?_map, hy]; rfl
      have htk : fs.take (j + 1) = fs.take j ++ [y.t] := by rw [List.take_add_one, hyf]; rfl
      have hjl : (fs.take j).length = j := by have := (List.getElem?_eq_some_iff.1 hyf).1; simp; omega
      have hsn := funsKV_snoc fs (fs.take j) 0 y.t []
      rw [← htk, hjl, Nat.zero_add] at hsn
      obtain ⟨kv, hkv⟩ : ∃ kv, funsKV fs 0 (fs.take j) [] = kv := ⟨_, rfl⟩
      rw [hkv] at gm hsn
      have hnd : (kv.map (·.1)).Nodup := by rw [← hkv]; exact funsKV_nodup _ _ _ _ (by simp)
      obtain ⟨yk, yt, yn, ys⟩ := y
      simp only at v0 v1 v2 v3 hsn
      have hlB := block_lt gB
      have hlm := block_lt gm
      have c4 : ∀ o, (wr.alloc o).cell? ⟨B, 4, none⟩ = some (.map (some fm)) := fun o => cell_block (block_alloc o gB) rfl
      have gmA : (wr.alloc (.cells #[.int .i64 yk, sk yt, .int .i64 yn, .slice b' ys.length cap'] 24)).drew.heap[fm]? = some (mapObj sk kv) := block_alloc _ gm
      have hlook := run_look (P := Tryz.prog) (T := 63) (K := 9) (E := 3) (by kernel_rfl) (by kernel_rfl) key_str gmA hnd (z := .int .i64 0) (by kernel_rfl) yt true
      have hbA : Below wr.heap.size wr (wr.alloc (.cells #[.int .i64 yk, sk yt, .int .i64 yn, .slice b' ys.length cap'] 24)) := ext_alloc (Below.refl _ _) _
      have hBW : W.heap.size ≤ fm := by have := hfm.out; omega
      have hBm : B ≠ fm := by have := hfm.out; have := hB.out; omega
      cases hk : kv.lookup yt with
      | some v =>
        rw [hk] at hlook hsn
        simp only [if_true, Option.getD_some, Option.isSome_some] at hlook hsn
        have fin : Hid (NI B fm ⟨k0, t0, n0, ks⟩ (some ⟨g', off, none⟩) uc W fs (j + 1) (wr.alloc (.cells #[.int .i64 yk, sk yt, .int .i64 yn, .slice b' ys.length cap'] 24)).drew) := ⟨block_alloc _ gB, by rw [hsn]; exact gmA, (ext_trans hb hbA).drew⟩
        obtain ⟨vi, rfl⟩ : ∃ vi, v = .int .i64 vi := by
          rw [← hkv, funsKV_look] at hk
          simp only [List.lookup_nil] at hk
          obtain ⟨q, _, rfl⟩ := Option.map_eq_some_iff.1 hk
          exact ⟨_, rfl⟩
        clear hcell hyf htk hsn hkv hnd hyV hy gmA hk
        go_wp2
        go_region_with (fail)
        all_goals
          go_wp2
          go_roundw
          case rel => exact ⟨j + 1, by omega, by go_num, fin.out⟩
          case measure => simp [intOf]; omega
      | none =>
        rw [hk] at hlook hsn
        simp only [if_true, Option.getD_none, Option.isSome_none, Bool.false_eq_true, if_false] at hlook hsn
        have gmB : (wr.alloc (.cells #[.int .i64 yk, sk yt, .int .i64 yn, .slice b' ys.length cap'] 24)).drew.drew.heap[fm]? = some (mapObj sk kv) := gmA
        have hput := run_put (P := Tryz.prog) (T := 63) (K := 9) (E := 3) (by kernel_rfl) (by kernel_rfl) key_str gmB hnd yt hk (.int .i64 (j : Nat))
        obtain ⟨V3, hV3⟩ : ∃ V3 : World, { (wr.alloc (.cells #[.int .i64 yk, sk yt, .int .i64 yn, .slice b' ys.length cap'] 24)).drew.drew with heap := (wr.alloc (.cells #[.int .i64 yk, sk yt, .int .i64 yn, .slice b' ys.length cap'] 24)).drew.drew.heap.setIfInBounds fm (mapObj sk (kv ++ [(yt, .int .i64 (j : Nat))])) } = V3 := ⟨_, rfl⟩
        rw [hV3] at hput
        have fin : Hid (NI B fm ⟨k0, t0, n0, ks⟩ (some ⟨g', off, none⟩) uc W fs (j + 1) V3) := by
          refine ⟨?_, ?_, ?_⟩
          · rw [← hV3]
            have : (wr.alloc (.cells #[.int .i64 yk, sk yt, .int .i64 yn, .slice b' ys.length cap'] 24)).heap[B]? = _ := block_alloc _ gB
            simp only [World.drew]
            rw [Array.getElem?_setIfInBounds_ne (Ne.symm hBm)]
            exact this
          · rw [hsn, ← hV3]
            have hs : fm < (wr.alloc (.cells #[.int .i64 yk, sk yt, .int .i64 yn, .slice b' ys.length cap'] 24)).heap.size := block_lt gmA
            simp only [World.drew]
            rw [Array.getElem?_setIfInBounds_self_of_lt hs]
          · have h1 : Below W.heap.size W (wr.alloc (.cells #[.int .i64 yk, sk yt, .int .i64 yn, .slice b' ys.length cap'] 24)).drew.drew := ((ext_trans hb hbA).drew).drew
            rw [← hV3]
            exact ⟨h1.os, h1.tape, h1.output, by simpa using h1.size, fun k hk => by
              have := h1.block k hk
              simp only [World.drew] at this ⊢
              rw [Array.getElem?_setIfInBounds_ne (by omega)]
              exact this⟩
        clear hcell hyf htk hsn hkv hnd hyV hy gmA gmB hk hV3
        go_wp2
        go_region_with (fail)
        all_goals
          go_wp2
          go_region_with (fail)
          all_goals
            go_wp2
            go_roundw
            case rel => exact ⟨j + 1, by omega, by go_num, fin.out⟩
            case measure => simp [intOf]; omega
    · have hlt' : ¬ (j : Int) < (L : Int) := by omega
      have hjL : j = L := by omega
      subst hjL
      have htk : fs.take j = fs := List.take_of_length_le (by rw [← hfs.out]; simp; exact Nat.le_of_eq hL.out)
      rw [htk] at gm
      have hjk : ¬ j < ks.length := by have := hL.out; omega
      have hjk' : ¬ (j : Int) < (ks.length : Int) := by omega
      go_wp2
      go_ret
      refine ⟨B, rfl, fm, fun k => k = B, ⟨none, 0, none, 0, [], gB, ⟨rfl, .inl ⟨rfl, rfl⟩⟩, ⟨rfl, .inl ⟨rfl, rfl⟩⟩, trivial, List.nodup_nil, fun q e => by simp [Value.ownBlock] at e, fun q e => by simp [Value.ownBlock] at e, fun m hm => by simp at hm⟩, rfl, fun k hk => ?_, ⟨_, by show _ = funsKV (ks.map Nd.t) 0 (ks.map Nd.t) []; rw [hfs.out], gm⟩, ?_, hb⟩
      · subst hk
        exact ⟨by have := hB.out; omega, block_lt gB⟩
      · have := hfm.out
        have := hB.out
        omega
end Go.Proofs.YtnnppenlfocgiaaGreatDoor
