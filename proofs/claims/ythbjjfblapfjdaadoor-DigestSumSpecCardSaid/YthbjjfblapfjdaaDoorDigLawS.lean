/- DigestSumSpec (layer 2). -/
import Derived.Test.YthbjjfblapfjdaaDoorDigSane
namespace Go.Proofs.YthbjjfblapfjdaaDoor
open Go.ChangeShapes Go.WideShapes Go.ChangeAt Go.RowKit
set_option maxRecDepth 100000 in
set_option maxHeartbeats 4000000 in
theorem sumspec_walk (a : Option Addr) (b off n cap : Nat) (l : List Int) (s : ByteArray) (k : Int) (w : World) (hK : Keys w) (hR : RowB w a b off n l) (hnc : a = none → cap = 0) (hlc : n ≤ cap) (hk0 : 0 ≤ k) (hk1 : k ≤ 255) :
    Calls Tryd.prog 3 #[.slice a n cap, .string s, .int .u8 k] w fun e w' => e = .returned (.bool true) ∧ Below w.heap.size w w' := by
  by_cases h1 : 300 < n
  · have i1 : (300 : Int) < (n : Int) := by omega
    clear hR
    go_enter Tryd.func3, Tryd.ntmps3
    go_wp2_with (go_at_call 11; refine (sane_any _ hK).mono ?_; rintro e WS ⟨rfl, hbS⟩)
    go_wp2
    go_ret
    exact ⟨rfl, hbS⟩
  by_cases h2 : 300 < s.size
  · have i1 : ¬ (300 : Int) < (n : Int) := by omega
    have i2 : (300 : Int) < (s.size : Int) := by omega
    clear hR
    go_enter Tryd.func3, Tryd.ntmps3
    go_wp2_with (go_at_call 11; refine (sane_any _ hK).mono ?_; rintro e WS ⟨rfl, hbS⟩)
    go_wp2
    go_ret
    exact ⟨rfl, hbS⟩
  have i1 : ¬ (300 : Int) < (n : Int) := by omega
  have i2 : ¬ (300 : Int) < (s.size : Int) := by omega
  have hwb : b < w.heap.size ∨ n = 0 := by
    rcases Nat.eq_zero_or_pos n with h | h
    · exact .inr h
    · exact .inl (hR.old h)
  have HR := Lib.hid (show _ ∧ _ ∧ _ from ⟨hR, hK, hwb⟩)
  clear hR hK hwb
  obtain ⟨N, hN⟩ : ∃ N : Nat, (N : Int) = k + 1 := ⟨(k + 1).toNat, by omega⟩
  have hN1 : 1 ≤ N := by omega
  have hN2 : N ≤ 256 := by omega
  have u1 : IntKind.i64.wrap k = k := wrap_id (by omega)
  have u2 : IntKind.i64.wrap (k + 1) = (N : Int) := by rw [← hN]; exact wrap_id (by omega)
  obtain ⟨F, hF, hmk⟩ := mk_u8 N (by omega)
  have HF := Lib.hid (show _ ∧ _ from ⟨hF, hN⟩)
  clear hF hN
  go_enter Tryd.func3, Tryd.ntmps3
  go_wp2_with (go_at_call 11; refine (sane_any _ HR.out.2.1).mono ?_; rintro e WS ⟨rfl, hbS⟩)
  go_upto_region 6 with fail
  have hgF : (WS.alloc (.cells F 5)).heap[WS.heap.size]? = some (.cells ((List.replicate N (0 : Int)).map (Value.int .u8)).toArray 5 (0, 0)) := by
    have := blk_new WS (.cells F 5)
    rw [this, ← HF.out.1]
  have hBa := hbS.alloc hbS.size (.cells F 5)
  have hO := Byts.of_full (B := w.heap.size) (List.length_replicate (n := N)) hgF hbS.size (by unfold maxLen; omega)
  have hgs : w.heap.size ≤ WS.heap.size := hbS.size
  have HB := Lib.hid (show Below w.heap.size w _ ∧ Byts _ _ _ _ from ⟨hBa, hO⟩)
  clear hgF hBa hO hbS hmk
  generalize WS.alloc (.cells F 5) = W1 at *
  generalize WS.heap.size = g at *
  go_wp2_with fail
  go_loopw [27] (fun v wr => ∃ j : Nat, j ≤ N ∧ (∃ L : List Int, L.length = N ∧ Byts wr w.heap.size (.slice (some ⟨g, 0, none⟩) N N) L) ∧ v = .int .i64 j ∧ Below w.heap.size w wr) (fun v _ => N - (intOf v).toNat)
  case atStart => exact ⟨0, Nat.zero_le _, ⟨_, List.length_replicate, HB.out.2⟩, rfl, HB.out.1⟩
  case round =>
    obtain ⟨j, hj, ⟨L, hL, hO⟩, rfl, hB⟩ := hrel
    clear HB
    by_cases hjN : j < N
    · have j1 : (j : Int) < (N : Int) := by omega
      have j2 : ¬ (j : Int) < 0 := by omega
      have u3 : IntKind.u8.wrap (j : Int) = (j : Int) := by rw [IntKind.wrap_u8]; omega
      have u4 : IntKind.i64.wrap ((j : Int) + 1) = ((j + 1 : Nat) : Int) := (wrap_id (by omega)).trans (by omega)
      have hc := hO.cellAt hL j hjN
      have hf := hO.freeAt hL j
      have hO2 := hO.stored hL j (j : Int)
      have hB2 : Below w.heap.size w (wr.setCell ⟨g, j, none⟩ (.int .u8 j)) := hB.setCell (p := ⟨g, j, none⟩) hgs _
      have HO := Lib.hid (show _ ∧ _ from ⟨hO2, hB2⟩)
      clear hO hB hO2 hB2
      by_cases hn0 : 0 < n
      · have j3 : (0 : Int) < (n : Int) := by omega
        have hm : (j : Int).tmod (n : Int) = ((j % n : Nat) : Int) := by rw [Int.tmod_eq_emod_of_nonneg (by omega)]; omega
        have hmn : j % n < n := Nat.mod_lt _ hn0
        obtain ⟨r, hr⟩ : ∃ r, r = j % n := ⟨_, rfl⟩
        rw [← hr] at hm hmn
        have j4 : (r : Int) < (n : Int) := by omega
        have j5 : ¬ (r : Int) < 0 := by omega
        have j6 : ¬ (n : Int) = 0 := by omega
        obtain rfl := HR.out.1.adr hn0
        have hcb := (HO.out.2.cell (p := ⟨b, off + r, none⟩) (HR.out.1.old hn0)).trans (HR.out.1.cel r hmn)
        have hc2 := HO.out.1.cellAt (by rw [List.length_set]; exact hL) j hjN
        have hf2 := HO.out.1.freeAt (by rw [List.length_set]; exact hL) j
        have hO3 := HO.out.1.stored (by rw [List.length_set]; exact hL) j (l.getD r 0)
        have hB3 := HO.out.2.setCell (p := ⟨g, j, none⟩) hgs (.int .u8 (l.getD r 0))
        have HQ := Lib.hid (show _ ∧ _ ∧ ((L.set j (j : Int)).set j (l.getD r 0)).length = N from ⟨hO3, hB3, by simp [hL]⟩)
        clear hO3 hB3 HO hr
        go_wp2_with fail
        go_roundw
        case rel => exact ⟨j + 1, hjN, ⟨_, HQ.out.2.2, HQ.out.1⟩, by go_num, HQ.out.2.1⟩
        case measure => simp [intOf]; omega
      · have j3 : ¬ (0 : Int) < (n : Int) := by omega
        go_wp2_with fail
        go_roundw
        case rel => exact ⟨j + 1, hjN, ⟨_, by rw [List.length_set]; exact hL, HO.out.1⟩, by go_num, HO.out.2⟩
        case measure => simp [intOf]; omega
    · obtain rfl : j = N := by omega
      have j1 : ¬ (j : Int) < (j : Int) := by omega
      have HO := Lib.hid (show _ ∧ _ from ⟨hO, hB⟩)
      clear hO hB
      have hl0 : 0 < j := by omega
      have HL := Lib.hid (show RowB wr (some ⟨g, 0, none⟩) g 0 j L from ⟨hL, fun _ => rfl, fun _ => World.block_lt_of_cell? wr ⟨g, 0, none⟩ (HO.out.1.cellAt hL 0 hl0), fun i hi => by rw [Nat.zero_add]; exact HO.out.1.cellAt hL i hi⟩)
      go_upto_region 14 with fail
      have hc0 := blk_cell (blk_new wr (.cells #[.slice a n cap, .slice (some ⟨g, 0, none⟩) j j] 22)) 0
      have hc1 := blk_cell (blk_new wr (.cells #[.slice a n cap, .slice (some ⟨g, 0, none⟩) j j] 22)) 1
      have hba := HO.out.2.alloc HO.out.2.size (.cells #[.slice a n cap, .slice (some ⟨g, 0, none⟩) j j] 22)
      have hbb := (Below.refl wr.heap.size wr).alloc (Nat.le_refl _) (.cells #[.slice a n cap, .slice (some ⟨g, 0, none⟩) j j] 22)
      have hql : wr.heap.size < (wr.alloc (.cells #[.slice a n cap, .slice (some ⟨g, 0, none⟩) j j] 22)).heap.size := by simp
      have HE := Lib.hid (show ∀ t, t < 2 → ∃ ax bx ox nx cx lx, (wr.alloc (.cells #[.slice a n cap, .slice (some ⟨g, 0, none⟩) j j] 22)).cell? ⟨wr.heap.size, t, none⟩ = some (.slice ax nx cx) ∧ RowB (wr.alloc (.cells #[.slice a n cap, .slice (some ⟨g, 0, none⟩) j j] 22)) ax bx ox nx lx ∧ (ax = none → cx = 0) ∧ nx ≤ cx ∧ nx ≤ 300 from fun t ht => by
        rcases (by omega : t = 0 ∨ t = 1) with rfl | rfl
        · exact ⟨a, b, off, n, cap, l, hc0, HR.out.1.below hba (Nat.le_refl _), hnc, hlc, by omega⟩
        · exact ⟨some ⟨g, 0, none⟩, g, 0, j, j, L, hc1, HL.out.below hbb (Nat.le_refl _), (fun h => by cases h), Nat.le_refl _, by omega⟩)
      have HW := Lib.hid (show Below w.heap.size w _ ∧ wr.heap.size < _ from ⟨hba, hql⟩)
      clear hc0 hc1 hba hbb HO HL hql
      generalize wr.alloc (.cells #[.slice a n cap, .slice (some ⟨g, 0, none⟩) j j] 22) = W2 at *
      generalize wr.heap.size = q at *
      have ke := fun (s t : St) (W : World) => run_eq_D (dgL s) (dgL t) (dgL_len _) (dgL_len _) W
      go_loopw [53] (fun v wr => ∃ t : Nat, t ≤ 2 ∧ v = .int .i64 t ∧ Below W2.heap.size W2 wr) (fun v _ => 2 - (intOf v).toNat)
      case atStart => exact ⟨0, Nat.zero_le _, rfl, Below.refl _ _⟩
      case round =>
        obtain ⟨t, ht, rfl, hB⟩ := hrel
        by_cases ht2 : t < 2
        · obtain ⟨ax, bx, ox, nx, cx, lx, hc, hRx, hncx, hlcx, hnx⟩ := HE.out t ht2
          have k1 : (t : Int) < 2 := by omega
          have k2 : ¬ (t : Int) < 0 := by omega
          have u5 : IntKind.i64.wrap ((t : Int) + 1) = ((t + 1 : Nat) : Int) := (wrap_id (by omega)).trans (by omega)
          have hc' := (hB.cell (p := ⟨q, t, none⟩) HW.out.2).trans hc
          have HX := Lib.hid (show _ ∧ RowB wr ax bx ox nx lx ∧ Keys wr from ⟨hB, hRx.below hB (Nat.le_refl _), (HR.out.2.1.below HW.out.1).below hB⟩)
          clear hB hRx hc
          go_upto_region 16 with fail
          go_wp2_with fail
          refine (sum_any ax bx ox nx cx lx wr HX.out.2.2 HX.out.2.1 hlcx (by omega)).mono ?_
          rintro e V1 ⟨rfl, hv1⟩
          have HX1 := Lib.hid (show Below W2.heap.size W2 V1 ∧ RowB V1 ax bx ox nx lx ∧ Keys V1 from ⟨below_after HX.out.1 hv1 HX.out.1.size, HX.out.2.1.below hv1 (Nat.le_refl _), HX.out.2.2.below hv1⟩)
          clear hv1 HX hc'
          rw [bV_dg]
          go_wp2_with fail
          refine (rsum_any ax bx ox nx cx lx V1 HX1.out.2.1 hncx (by omega)).mono ?_
          rintro e V2 ⟨rfl, hv2⟩
          have HX2 := Lib.hid (show Below W2.heap.size W2 V2 ∧ RowB V2 ax bx ox nx lx ∧ Keys V2 from ⟨below_after HX1.out.1 hv2 HX1.out.1.size, HX1.out.2.1.below hv2 (Nat.le_refl _), HX1.out.2.2.below hv2⟩)
          clear hv2 HX1
          rw [bV_dg]
          go_wp2_with fail
          refine (tagged_any s ax bx ox nx cx lx V2 HX2.out.2.2 HX2.out.2.1 hncx (by omega) (by omega)).mono ?_
          rintro e V3 ⟨rfl, hv3⟩
          have HX3 := Lib.hid (show Below W2.heap.size W2 V3 ∧ RowB V3 ax bx ox nx lx ∧ Keys V3 from ⟨below_after HX2.out.1 hv3 HX2.out.1.size, HX2.out.2.1.below hv3 (Nat.le_refl _), HX2.out.2.2.below hv3⟩)
          clear hv3 HX2
          rw [bV_dg]
          go_wp2_with fail
          refine (rtagged_any s ax bx ox nx cx lx V3 HX3.out.2.1 hncx (by omega) (by omega)).mono ?_
          rintro e V4 ⟨rfl, hv4⟩
          have HX4 := Lib.hid (show Below W2.heap.size W2 V4 from below_after HX3.out.1 hv4 HX3.out.1.size)
          clear hv4 HX3
          rw [bV_dg]
          go_wp2_with fail
          go_roundw
          case rel => exact ⟨t + 1, ht2, by go_num, HX4.out⟩
          case measure => simp [intOf]; omega
        · have k1 : ¬ (t : Int) < 2 := by omega
          go_wp2
          go_ret
          exact ⟨rfl, HW.out.1.trans (hB.mono HW.out.1.size)⟩
end Go.Proofs.YthbjjfblapfjdaaDoor
