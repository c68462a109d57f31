/- The walk of SpeedBack (layer 26). -/
import Derived.Test.YtipjogicjgkgjaaSpLawSpec
import Derived.Test.YtipjogicjgkgjaaSpLawLen
namespace Go.Proofs.Ytipjogicjgkgjaa
open Go.ChangeShapes Go.WideShapes Go.ChangeAt Go.RowKit

set_option maxHeartbeats 1000000 in
theorem clipped_any (a : Option Addr) (b off n cap : Nat) (l : List Int) (w : World) (hR : Row w a b off n l) (hn : n ≤ 1000000) :
    Calls Try.prog 18 #[.slice a n cap] w fun e w' => ∃ v, e = .returned v ∧ Ints w' w.heap.size v (l.map clip) ∧ Below w.heap.size w w' := by
  have hl := hR.len
  have HR := Lib.hid hR; clear hR
  have HL := Lib.hid hl; clear hl
  go_enter Try.func18, Try.ntmps18
  go_wp2
  go_loopw [2, 4, 7] (fun v _ i wr => ∃ k : Nat, k ≤ n ∧ i = .int .i64 k ∧ Ints wr w.heap.size v ((l.take k).map clip) ∧ Below w.heap.size w wr) (fun _ _ i _ => n - (intOf i).toNat)
  case atStart => exact ⟨0, Nat.zero_le _, rfl, Ints.nil _ _, Below.refl _ _⟩
  case round =>
    obtain ⟨k, hk, rfl, hO, hB⟩ := hrel
    by_cases hlt : k < n
    · obtain rfl := HR.out.adr (by omega)
      have hcell := (HR.out.below hB (Nat.le_refl _)).cel k hlt
      have hs := hB.size
      have hT : (l.take (k + 1)).map clip = (l.take k).map clip ++ [clip (l.getD k 0)] := by
        rw [List.take_add_one, List.map_append]
        have h1 : k < l.length := by have := HL.out; omega
        simp [List.getD_eq_getElem?_getD, h1]
      generalize hx : l.getD k 0 = x at *
      have HX := Lib.hid (show _ ∧ _ from ⟨hx, hT⟩); clear hx hT
      have HB := Lib.hid hB; clear hB
      go_wp2_with (first | (go_at_call 19; refine (clip_any _ _).mono ?_; rintro e w' ⟨rfl, rfl⟩) | (at_builtin; refine wpList_append_int rfl _ _ rfl w.heap.size _ _ rfl (hO.alloc _) _ _ rfl _ _ (blk_new _ _) (by simp; omega) (by simp; omega) ?_; intro v' w1 hO1 hB1 _))
      have HO1 := Lib.hid hO1; clear hO1
      go_roundw
      case rel => exact ⟨k + 1, by omega, by go_num, by rw [HX.out.2]; exact HO1.out, (HB.out.alloc hs _).trans hB1⟩
      case measure => simp [intOf]; omega
    · obtain rfl : k = n := by omega
      rw [List.take_of_length_le (by have := HL.out; omega)] at hO
      go_wp2
      go_ret
      exact ⟨_, rfl, hO, hB⟩


theorem clip_clip (x : Int) : clip (clip x) = clip x := by unfold clip; omega
theorem spd_1 {m : Int} (h1 : 1 ≤ m) (h2 : m ≤ 64) : Spd 1 m := ⟨by omega, by omega, by simp⟩
theorem spd_m {m : Int} (h1 : 1 ≤ m) (h2 : m ≤ 64) : Spd m 1 := ⟨by omega, by omega, by simp⟩
/-- Each k-th element, clipped. -/
def eachL (l : List Int) (k j : Nat) : List Int := (List.range j).map fun i => clip (l.getD (i * k) 0)
theorem eachL_len (l : List Int) (k j : Nat) : (eachL l k j).length = j := by simp [eachL]
theorem eachL_succ (l : List Int) (k j : Nat) : eachL l k (j + 1) = eachL l k j ++ [clip (l.getD (j * k) 0)] := by simp [eachL, List.range_succ]
theorem smp_each (l : List Int) (k i : Nat) : smpI l k 1 i = clip (l.getD (i * k) 0) := by
  unfold smpI sV
  rw [Int.ediv_one, Int.emod_one, if_pos rfl, ← Int.natCast_mul, Int.toNat_natCast]
theorem conv_each (l : List Int) (k M : Nat) : convL l k 1 M = eachL l k M := by
  unfold convL eachL
  exact List.map_congr_left fun i _ => smp_each l k i
theorem each_one (l : List Int) : eachL l 1 l.length = l.map clip := by
  apply List.ext_getElem?
  intro i
  unfold eachL
  by_cases hi : i < l.length
  · rw [List.getElem?_map, List.getElem?_range hi]
    simp [List.getD_eq_getElem?_getD, hi]
  · rw [List.getElem?_eq_none (by simp; omega), List.getElem?_eq_none (by simp; omega)]
/-- Slow, and fast again. -/
theorem smp_slow (l : List Int) (m i : Nat) (hm : 1 ≤ m) : smpI l 1 m (i * m) = clip (l.getD i 0) := by
  have h0 : (m : Int) ≠ 0 := by omega
  have e : ((i * m : Nat) : Int) * 1 = (i : Int) * (m : Int) := by rw [Int.mul_one, Int.natCast_mul]
  unfold smpI sV
  rw [e, Int.mul_ediv_cancel _ h0, Int.mul_emod_left, if_pos rfl, Int.toNat_natCast]
theorem back_each (l : List Int) (m M : Nat) (hm : 1 ≤ m) (hM : l.length = 0 ∨ (l.length - 1) * m + 1 = M) : eachL (convL l 1 m M) m l.length = l.map clip := by
  apply List.ext_getElem?
  intro i
  unfold eachL
  by_cases hi : i < l.length
  · rw [List.getElem?_map, List.getElem?_range hi]
    have hq : i * m < M := by
      rcases hM with h | h
      · omega
      · have : i * m ≤ (l.length - 1) * m := Nat.mul_le_mul_right m (by omega)
        omega
    have e : (convL l 1 m M).getD (i * m) 0 = clip (l.getD i 0) := by
      unfold convL
      rw [List.getD_eq_getElem?_getD, List.getElem?_map, List.getElem?_range hq]
      exact smp_slow l m i hm
    simp only [Option.map_some]
    rw [e, clip_clip]
    simp [List.getD_eq_getElem?_getD, hi]
  · rw [List.getElem?_eq_none (by simp; omega), List.getElem?_eq_none (by simp; omega)]
theorem lenV_slow {n m : Nat} (hn : 1 ≤ n) : lenV n 1 m = (((n - 1) * m + 1 : Nat) : Int) := by
  rw [lenV_pos (by omega), Int.ediv_one]
  rw [show (n : Int) - 1 = ((n - 1 : Nat) : Int) by omega, ← Int.natCast_mul]
  rfl
theorem lenV_fast {n m : Nat} (hn : 1 ≤ n) (hm : 1 ≤ m) : lenV (((n - 1) * m + 1 : Nat) : Int) m 1 = (n : Int) := by
  rw [lenV_pos (by omega), Int.mul_one]
  rw [show (((n - 1) * m + 1 : Nat) : Int) - 1 = ((n - 1 : Nat) : Int) * (m : Int) by rw [← Int.natCast_mul]; omega, Int.mul_ediv_cancel _ (by omega)]
  omega
theorem lenV_one (n : Nat) : lenV n 1 1 = (n : Int) := by
  unfold lenV
  by_cases h : (n : Int) = 0
  · rw [if_pos h, h]
  · rw [if_neg h, Int.mul_one, Int.ediv_one]; omega
/-- How many are left. -/
theorem lenV_left {n k M : Nat} (hk : 1 ≤ k) (hM : lenV n k 1 = (M : Int)) {j : Nat} (h1 : n ≤ j * k) (h2 : j = 0 ∨ (j - 1) * k < n) : j = M := by
  unfold lenV at hM
  by_cases h : (n : Int) = 0
  · rw [if_pos h] at hM
    rcases h2 with h2 | h2
    · omega
    · omega
  · rw [if_neg h, Int.mul_one] at hM
    rcases h2 with h2 | h2
    · subst h2; omega
    · have hj : 1 ≤ j := by
        rcases Nat.eq_zero_or_pos j with e | e
        · subst e; omega
        · exact e
      have e1 : ((n : Int) - 1) / (k : Int) = ((j - 1 : Nat) : Int) := by
        have l1 : ((j - 1 : Nat) : Int) * (k : Int) ≤ (n : Int) - 1 := by rw [← Int.natCast_mul]; omega
        have l2 : (n : Int) - 1 < (((j - 1 : Nat) : Int) + 1) * (k : Int) := by
          rw [show ((j - 1 : Nat) : Int) + 1 = ((j : Nat) : Int) by omega, ← Int.natCast_mul]; omega
        have a1 := (Int.le_ediv_iff_mul_le (show 0 < (k : Int) by omega)).2 l1
        have a2 := (Int.ediv_lt_iff_lt_mul (show 0 < (k : Int) by omega)).2 l2
        omega
      omega

theorem lenV_small {n : Nat} {a b : Int} (hs : Spd a b) (hn : n ≤ 60) : (lenV n a b).toNat ≤ 3840 := by
  obtain ⟨⟨a1, a2⟩, ⟨b1, b2⟩, _⟩ := hs
  have h0 := (lenV_bd (n := n) (a := a) (b := b) (by omega) (by omega) a1 b1 b2).1
  by_cases h : (n : Int) = 0
  · unfold lenV; rw [if_pos h]; decide
  · rw [lenV_pos (by omega)] at h0 ⊢
    have p0 : 0 ≤ ((n : Int) - 1) * b := Int.mul_nonneg (by omega) (by omega)
    have p1 : ((n : Int) - 1) * b ≤ ((n : Int) - 1) * 64 := Int.mul_le_mul_of_nonneg_left b2 (by omega)
    have q1 : ((n : Int) - 1) * b / a ≤ ((n : Int) - 1) * b := Int.ediv_le_self _ p0
    omega

set_option maxRecDepth 100000 in
set_option maxHeartbeats 8000000 in
theorem speedBack_walk (a : Option Addr) (b off n cap : Nat) (l : List Int) (aa bb : Int) (w : World) (hR : Row w a b off n l) (a1 : 0 ≤ aa) (a2 : aa ≤ 255) (b1 : 0 ≤ bb) (b2 : bb ≤ 255) :
    Calls Try.prog 4 #[.slice a n cap, .int .u8 aa, .int .u8 bb] w fun e w' => e = .returned (.bool true) ∧ Below w.heap.size w w' := by
  have hB := Below.refl w.heap.size w
  have Ra := hR
  have HL := Lib.hid hR.len
  clear hR
  obtain ⟨k, hk⟩ := Int.eq_ofNat_of_zero_le (show 0 ≤ 1 + aa % 64 by omega)
  obtain ⟨m, hm⟩ := Int.eq_ofNat_of_zero_le (show 0 ≤ 1 + bb % 64 by omega)
  have k1 : 1 ≤ k := by omega
  have k2 : k ≤ 64 := by omega
  have m1 : 1 ≤ m := by omega
  have m2 : m ≤ 64 := by omega
  have u1 : IntKind.i64.wrap aa = aa := by rw [IntKind.wrap_i64]; omega
  have u2 : IntKind.i64.wrap bb = bb := by rw [IntKind.wrap_i64]; omega
  have u3 : aa.tmod 64 = aa % 64 := Int.tmod_eq_emod_of_nonneg a1
  have u4 : bb.tmod 64 = bb % 64 := Int.tmod_eq_emod_of_nonneg b1
  have u5 : IntKind.i64.wrap (1 + aa % 64) = (k : Int) := by rw [IntKind.wrap_i64]; omega
  have u6 : IntKind.i64.wrap (1 + bb % 64) = (m : Int) := by rw [IntKind.wrap_i64]; omega
  go_enter Try.func4, Try.ntmps4
  go_wp2_with fail
  refine (sane_any _).mono ?_; rintro e w0 ⟨rfl, hb⟩
  replace Ra := Ra.below hb (Nat.le_refl _)
  replace hB := below_after hB hb hB.size
  clear hb
  by_cases hkn : 60 < n
  · have hd : decide ((n : Int) ≤ 60) = false := decide_eq_false (by omega)
    go_wp2_with fail
    refine (few_any _ _ _ _).mono ?_; rintro e w' ⟨rfl, rfl⟩; rw [hd]
    go_wp2
    go_ret
    exact ⟨rfl, hB⟩
  have hd : decide ((n : Int) ≤ 60) = true := decide_eq_true (by omega)
  go_wp2_with fail
  refine (few_any _ _ _ _).mono ?_; rintro e w' ⟨rfl, rfl⟩; rw [hd]
  -- TAIL
  obtain ⟨X, hX⟩ : ∃ X : Nat, lenV n 1 m = (X : Int) := ⟨_, (lenV_fits (spd_1 (by omega) (by omega)) (by omega)).1⟩
  have hX1 : X ≤ 3840 := by have := lenV_small (n := n) (spd_1 (show 1 ≤ (m : Int) by omega) (by omega)) (by omega); rw [hX] at this; omega
  have hXn : l.length = 0 ∨ (l.length - 1) * m + 1 = X := by
    rw [HL.out]
    by_cases h : n = 0
    · exact .inl h
    · right; have := lenV_slow (n := n) (m := m) (by omega); rw [hX] at this; omega
  have hMy : lenV X m 1 = (n : Int) := by
    by_cases h : n = 0
    · subst h
      have h0 : X = 0 := by
        have : lenV ((0 : Nat) : Int) 1 m = 0 := rfl
        rw [hX] at this; omega
      subst h0; rfl
    · have := lenV_slow (n := n) (m := m) (by omega)
      rw [hX] at this
      rw [this]
      exact lenV_fast (by omega) m1
  have hY := back_each l m X m1 hXn
  rw [HL.out] at hY
  obtain ⟨Z, hZ⟩ : ∃ Z : Nat, lenV n k 1 = (Z : Int) := ⟨_, (lenV_fits (spd_m (by omega) (by omega)) (by omega)).1⟩
  have hZ1 : Z ≤ 3840 := by have := lenV_small (n := n) (spd_m (show 1 ≤ (k : Int) by omega) (by omega)) (by omega); rw [hZ] at this; omega
  have hO1 := each_one l
  rw [HL.out] at hO1
  have HF := Lib.hid (show _ ∧ _ ∧ _ ∧ _ ∧ _ from ⟨hX, hMy, hY, hZ, hO1⟩)
  clear hX hXn hMy hY hZ hO1
  go_wp2_with fail
  refine (convert_ok _ b off _ _ X l _ _ _ Ra (by omega) (spd_1 (by omega) (by omega)) HF.out.1 (by omega)).mono ?_; rintro e w1 ⟨v1, rfl, hO, hb⟩
  obtain ⟨a3, b3, c3, rfl, R1, -, -⟩ := hO.row
  rw [convL_len] at R1 ⊢
  replace Ra := Ra.below hb (Nat.le_refl _)
  replace hB := below_after hB hb hB.size
  clear hb hO
  go_wp2_with fail
  refine (convert_ok _ b3 _ _ _ n (convL l 1 m X) _ _ _ R1 (by omega) (spd_m (by omega) (by omega)) HF.out.2.1 (by omega)).mono ?_; rintro e w2 ⟨v2, rfl, hO, hb⟩
  rw [conv_each, HF.out.2.2.1] at hO
  obtain ⟨a4, b4, c4, rfl, R2, -, -⟩ := hO.row
  rw [List.length_map, HL.out] at R2 ⊢
  replace Ra := Ra.below hb (Nat.le_refl _)
  replace hB := below_after hB hb hB.size
  clear hb hO R1
  go_wp2_with fail
  refine (convert_ok _ b off _ _ Z l _ _ _ Ra (by omega) (spd_m (by omega) (by omega)) HF.out.2.2.2.1 (by omega)).mono ?_; rintro e w3 ⟨v3, rfl, hO, hb⟩
  rw [conv_each] at hO
  obtain ⟨a5, b5, c5, rfl, R3, -, -⟩ := hO.row
  rw [eachL_len] at R3 ⊢
  replace Ra := Ra.below hb (Nat.le_refl _)
  replace R2 := R2.below hb (Nat.le_refl _)
  replace hB := below_after hB hb hB.size
  clear hb hO
  go_wp2_with fail
  refine (convert_ok _ b off _ _ n l 1 1 _ Ra (by omega) (spd_m (by omega) (by omega)) (lenV_one n) (by omega)).mono ?_; rintro e w4 ⟨v4, rfl, hO, hb⟩
  rw [show convL l 1 1 n = l.map clip from (conv_each l 1 n).trans HF.out.2.2.2.2] at hO
  obtain ⟨a6, b6, c6, rfl, R4, -, -⟩ := hO.row
  rw [List.length_map, HL.out] at R4 ⊢
  replace Ra := Ra.below hb (Nat.le_refl _)
  replace R2 := R2.below hb (Nat.le_refl _)
  replace R3 := R3.below hb (Nat.le_refl _)
  replace hB := below_after hB hb hB.size
  clear hb hO
  go_wp2_with fail
  refine (clipped_any _ b off _ _ l _ Ra (by omega)).mono ?_; rintro e w5 ⟨v5, rfl, hO, hb⟩
  obtain ⟨a7, b7, c7, rfl, R5, -, -⟩ := hO.row
  rw [List.length_map, HL.out] at R5 ⊢
  replace R2 := R2.below hb (Nat.le_refl _)
  replace R3 := R3.below hb (Nat.le_refl _)
  replace R4 := R4.below hb (Nat.le_refl _)
  replace hB := below_after hB hb hB.size
  clear hb hO Ra
  go_wp2_with fail
  refine (same_any _ _ _ _ _ _ _ _ _ _ _ _ _ R2 R5 (by omega) (by omega) rfl).mono ?_; rintro e w6 ⟨rfl, hb⟩
  replace R3 := R3.below hb (Nat.le_refl _)
  replace R4 := R4.below hb (Nat.le_refl _)
  replace R5 := R5.below hb (Nat.le_refl _)
  replace hB := below_after hB hb hB.size
  clear hb R2
  go_wp2_with fail
  refine (same_any _ _ _ _ _ _ _ _ _ _ _ _ _ R4 R5 (by omega) (by omega) rfl).mono ?_; rintro e w7 ⟨rfl, hb⟩
  replace R3 := R3.below hb (Nat.le_refl _)
  replace R5 := R5.below hb (Nat.le_refl _)
  replace hB := below_after hB hb hB.size
  clear hb R4
  have HB := Lib.hid hB; clear hB
  have HR := Lib.hid (show _ ∧ _ from ⟨R3, R5⟩); clear R3 R5
  clear u1 u2 u3 u4 u5 u6
  go_wp2
  go_loopw [18, 19] (fun v i wr => ∃ j p : Nat, p = j * k ∧ p ≤ n + 64 ∧ i = .int .i64 p ∧ Ints wr w7.heap.size v (eachL l k j) ∧ Below w7.heap.size w7 wr ∧ (j = 0 ∨ (j - 1) * k < n)) (fun _ i _ => n + 65 - (intOf i).toNat)
  case atStart => exact ⟨0, 0, by simp, by omega, rfl, Ints.nil _ _, Below.refl _ _, .inl rfl⟩
  case round =>
    obtain ⟨j, p, hp, hpn, rfl, hO, hB, hj⟩ := hrel
    have HP := Lib.hid hp; have HJ := Lib.hid hj; clear hp hj
    by_cases hlt : p < n
    · obtain rfl := HR.out.2.adr (by omega)
      have hcell := (HR.out.2.below hB (Nat.le_refl _)).cel p hlt
      have hj60 : j ≤ 60 := by
        have h1 : j * 1 ≤ j * k := Nat.mul_le_mul_left j k1
        have := HP.out
        omega
      have hx : (l.map clip).getD p 0 = clip (l.getD p 0) := by
        have h1 : p < l.length := by have := HL.out; omega
        simp [List.getD_eq_getElem?_getD, h1]
      rw [hx, Nat.zero_add] at hcell
      have hs := hB.size
      have hS := eachL_succ l k j
      rw [← HP.out] at hS
      generalize clip (l.getD p 0) = x at *
      have HS := Lib.hid hS; clear hS hx
      have HB2 := Lib.hid hB; clear hB
      go_wp2_with (at_builtin; refine wpList_append_int rfl _ _ rfl w7.heap.size _ _ rfl (hO.alloc _) _ _ rfl _ _ (blk_new _ _) (by rw [eachL_len]; omega) (by simp; omega) ?_; intro v' w8 hO1 hB1 _)
      have HO1 := Lib.hid hO1; clear hO1
      go_roundw
      case rel => exact ⟨j + 1, p + k, by rw [HP.out, Nat.succ_mul], by omega, by go_num, by rw [HS.out]; exact HO1.out, (HB2.out.alloc hs _).trans hB1, .inr (by rw [Nat.add_sub_cancel, ← HP.out]; exact hlt)⟩
      case measure => simp [intOf]; omega
    · have hjZ : j = Z := lenV_left k1 HF.out.2.2.2.1 (by rw [← HP.out]; omega) HJ.out
      subst hjZ
      obtain ⟨a9, b9, c9, rfl, R9, -, -⟩ := hO.row
      rw [eachL_len] at R9 ⊢
      have R3 := HR.out.1.below hB (Nat.le_refl _)
      have hBw := below_after HB.out hB HB.out.size
      clear hO hB
      go_wp2_with fail
      refine (same_any _ _ _ _ _ _ _ _ _ _ _ _ _ R3 R9 (by omega) (by omega) rfl).mono ?_; rintro e w9 ⟨rfl, hb⟩
      replace hBw := below_after hBw hb hBw.size
      go_wp2
      go_ret
      exact ⟨rfl, hBw⟩
end Go.Proofs.Ytipjogicjgkgjaa
