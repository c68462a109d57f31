/- The walk of MetersHold (layer 52). -/
import Derived.Test.YtgeplpigmjmfdaaMetLawSpec
import Derived.Test.YtgeplpigmjmfdaaHeld
namespace Go.Proofs.Ytgeplpigmjmfdaa
open Go.ChangeShapes Go.WideShapes Go.ChangeAt Go.RowKit

/-- The greatest of the first k sizes, each less f for each sample up to t, and 0. -/
def wantV (l : List Int) (f t : Int) : Nat → Int
  | 0 => 0
  | k + 1 => max (wantV l f t k) (sizeV (l.getD k 0) - f * (t - (k : Int)))
theorem wantV_eq (l : List Int) (f : Int) (hf : 0 ≤ f) : ∀ (k : Nat) (d : Int), 0 ≤ d → wantV l f ((k : Int) - 1 + d) k = max (holdY l f k - f * d) 0 := by
  intro k
  induction k with
  | zero =>
    intro d hd
    have := Int.mul_nonneg hf hd
    simp only [wantV, holdY]; omega
  | succ k ih =>
    intro d hd
    have i1 := ih (d + 1) (by omega)
    have p0 := Int.mul_nonneg hf hd
    simp only [wantV, holdY]
    rw [show ((k + 1 : Nat) : Int) - 1 + d = (k : Int) - 1 + (d + 1) by omega, i1, show (k : Int) - 1 + (d + 1) - (k : Int) = d by omega, Int.mul_add, Int.mul_one]
    omega
theorem want_hold (l : List Int) (f : Int) (hf : 0 ≤ f) (i : Nat) : wantV l f (i : Int) (i + 1) = holdY l f (i + 1) := by
  have := wantV_eq l f hf (i + 1) 0 (by omega)
  rw [show ((i + 1 : Nat) : Int) - 1 + 0 = (i : Int) by omega, Int.mul_zero] at this
  have b := holdY_bd l f hf (i + 1)
  omega
theorem wantV_bd (l : List Int) (f t : Int) (hf : 0 ≤ f) (k : Nat) (hk : (k : Int) ≤ t + 1) : 0 ≤ wantV l f t k ∧ wantV l f t k ≤ 2147483648 := by
  induction k with
  | zero => simp [wantV]
  | succ k ih =>
    have i1 := ih (by omega)
    have sb := sizeV_bd (l.getD k 0)
    have := Int.mul_nonneg hf (show 0 ≤ t - (k : Int) by omega)
    simp only [wantV]; omega
theorem peak_one (l : List Int) (j : Nat) : peakV ((l.drop j).take 1) 1 = sizeV (l.getD j 0) := by
  have sb := sizeV_bd (l.getD j 0)
  have e : ((l.drop j).take 1).getD 0 0 = l.getD j 0 := by
    simp [List.getD_eq_getElem?_getD]
  simp only [peakV]
  rw [e]; omega
theorem hold_zero (l : List Int) (k : Nat) : holdY l 0 k = peakV l k := by
  induction k with
  | zero => rfl
  | succ k ih =>
    have pb := peakV_bd l k; have sb := sizeV_bd (l.getD k 0)
    simp only [holdY, peakV]; rw [ih]; omega
theorem holdL_at {l : List Int} {f : Int} {n k : Nat} (hk : k < n) : (holdL l f n).getD k 0 = holdY l f (k + 1) := by
  unfold holdL
  simp [List.getD_eq_getElem?_getD, hk]

set_option maxHeartbeats 8000000 in
theorem metersHold_small (a : Option Addr) (b off n cap : Nat) (l : List Int) (f : Int) (w : World) (hR : Row w a b off n l) (hcap : n ≤ cap) (f0 : 0 ≤ f) (f1 : f ≤ 2147483648) :
    Calls Try.prog 6 #[.slice a n cap, .int .u32 f] w fun e w' => e = .returned (.bool true) ∧ Below w.heap.size w w' := by
  have hB := Below.refl w.heap.size w
  have R0 := hR
  clear hR
  go_enter Try.func6, Try.ntmps6
  go_wp2_with fail
  refine (sane_any _).mono ?_; rintro e w1 ⟨rfl, hb⟩
  replace R0 := R0.below hb (Nat.le_refl _)
  replace hB := below_after hB hb hB.size
  clear hb
  by_cases hk : 100 < n
  · go_wp2
    go_ret
    exact ⟨rfl, hB⟩
  go_wp2_with fail
  refine (hold_ok _ b off _ _ l (f) _ R0 (by omega) (by omega) (by omega)).mono ?_; rintro e w2 ⟨v, rfl, hO, hb⟩
  obtain ⟨a2, b2, c2, rfl, R1, L1, M1⟩ := hO.row
  replace R0 := R0.below hb (Nat.le_refl _)
  replace hB := below_after hB hb hB.size
  clear hO hb
  rw [holdL_len] at R1 L1 ⊢
  have HR := Lib.hid R0; have HR1 := Lib.hid R1; have HB := Lib.hid hB
  clear R0 R1 hB M1
  go_wp2_with fail
  go_loopw [37] (fun i wr => ∃ k : Nat, k ≤ n ∧ i = .int .i64 k ∧ Below w2.heap.size w2 wr) (fun i _ => n - (intOf i).toNat)
  case atStart => exact ⟨0, Nat.zero_le _, rfl, Below.refl _ _⟩
  case round =>
    obtain ⟨k, hkn, rfl, hBr⟩ := hrel
    by_cases hlt : k < n
    · obtain rfl := HR.out.adr (by omega)
      obtain rfl := HR1.out.adr (by omega)
      have hcell := (HR1.out.below hBr (Nat.le_refl _)).cel k hlt
      rw [holdL_at hlt, ← want_hold l (f) (by omega), Nat.zero_add] at hcell
      have HBr := Lib.hid hBr; clear hBr
      go_wp2_with fail
      go_loopw [10, 11] (fun v j wj => ∃ m : Nat, m ≤ k + 1 ∧ j = .int .i64 m ∧ v = .int .i64 (wantV l (f) k m) ∧ Below w2.heap.size w2 wj) (fun _ j _ => k + 1 - (intOf j).toNat)
      case atStart => exact ⟨0, Nat.zero_le _, rfl, rfl, HBr.out⟩
      case round =>
        obtain ⟨m, hmk, rfl, rfl, hBj⟩ := hrel
        by_cases hjt : m < k + 1
        · have hRow := (HR.out.below hBj (Nat.le_refl _)).sub (i := m) (s := 1) (by omega)
          have wb := wantV_bd l (f) k (by omega) m (by omega)
          have sb := sizeV_bd (l.getD m 0)
          have hW : wantV l (f) k (m + 1) = max (wantV l (f) k m) (sizeV (l.getD m 0) - f * ((k : Int) - (m : Int))) := rfl
          have p0 : 0 ≤ f * ((k : Int) - (m : Int)) := Int.mul_nonneg (by omega) (by omega)
          have p1 : f * ((k : Int) - (m : Int)) ≤ f * 100 := Int.mul_le_mul_of_nonneg_left (by omega) (by omega)
          have HW := Lib.hid (show _ ∧ _ ∧ _ from ⟨hRow, hW, hBj⟩); clear hRow hW hBj
          go_wp2_with fail
          refine (peak_any _ b (off + m) _ _ _ _ HW.out.1 (by omega)).mono ?_; rintro e w4 ⟨rfl, hb⟩
          rw [peak_one]
          generalize hx : sizeV (l.getD m 0) = x at *
          have HX := Lib.hid (show _ ∧ _ from ⟨hx, below_after HW.out.2.2 hb HW.out.2.2.size⟩)
          clear hb hx
          by_cases hmx : wantV l (f) k m < x - f * ((k : Int) - (m : Int))
          all_goals
            go_wp2_with fail
            go_roundw
            case rel => exact ⟨m + 1, by omega, by go_num, by rw [HW.out.2.1]; congr 1; omega, HX.out.2⟩
            case measure => simp [intOf]; omega
        · obtain rfl : m = k + 1 := by omega
          have hcj := (HR1.out.below hBj (Nat.le_refl _)).cel k hlt
          go_wp2
          go_roundw
          case rel => exact ⟨k + 1, by omega, by go_num, hBj⟩
          case measure => simp [intOf]; omega
    · obtain rfl : k = n := by omega
      have hBe := below_after HB.out hBr HB.out.size
      have HBE := Lib.hid hBe
      clear hBe
      by_cases hz : k = 0
      · subst hz
        go_wp2_with fail
        go_quiet (fail)
        go_wp2
        go_ret
        exact ⟨rfl, below_drewN HBE.out _⟩
      · by_cases hfz : f = 0
        · subst hfz
          obtain ⟨j, rfl⟩ : ∃ j, k = j + 1 := ⟨k - 1, by omega⟩
          obtain rfl := HR.out.adr (by omega)
          obtain rfl := HR1.out.adr (by omega)
          have hcell := (HR1.out.below hBr (Nat.le_refl _)).cel j (by omega)
          rw [holdL_at (by omega), hold_zero, Nat.zero_add] at hcell
          have HR2 := Lib.hid ((HR.out.below hBr (Nat.le_refl _)).below ((Below.refl _ _).drew) (Nat.le_refl _))
          have hb2 : b2 < wr.heap.size := (HR1.out.below hBr (Nat.le_refl _)).old (by omega)
          have HBR := Lib.hid hBr; clear hBr hz
          have hz1 : ((j : Int) + 1 == 0) = false := by simp; omega
          have hz2 : (0 : Int) ≤ (j : Int) := by omega
          have hz3 : (j : Int) < (j : Int) + 1 := by omega
          have hz4 : IntKind.i64.wrap (j : Int) = (j : Int) := by rw [IntKind.wrap_i64]; omega
          go_wp2_with fail
          refine wp_region_from 0 15 (fun w' => w'.cell? ⟨b2, j, none⟩ = some (.int .i64 (peakV l (j + 1)))) (by kernel_rfl) (by kernel_rfl) (by decide) (by kernel_rfl) hcell ?_
          simp only [List.drop_zero, List.take_succ_cons, List.take_zero]
          refine wpHeld_cons (.slice (some ⟨b2, 0, none⟩) (j + 1) c2) (by kernel_rfl) ?_ ?_
          · rintro w' s0
            try go_simp
          refine wpHeld_cons (.int .i64 ((j : Int) + 1)) (by kernel_rfl) ?_ ?_
          · rintro w' s0
            try go_simp
          refine wpHeld_cons (.bool false) (by kernel_rfl) ?_ ?_
          · rintro w' s0
            try go_simp
          refine wpHeld_cons (.bool false) (by kernel_rfl) ?_ ?_
          · rintro w' s0
            try go_simp
          refine wpHeld_cons (.int .i64 0) (by kernel_rfl) ?_ ?_
          · rintro w' s0
            try go_simp
          refine wpHeld_cons (.bool false) (by kernel_rfl) ?_ ?_
          · rintro w' s0
            try go_simp
          refine wpHeld_cons (.bool false) (by kernel_rfl) ?_ ?_
          · rintro w' s0
            try go_simp
          refine wpHeld_cons (.bool false) (by kernel_rfl) ?_ ?_
          · rintro w' s0
            try go_simp
          refine wpHeld_cons (.slice (some ⟨b2, 0, none⟩) (j + 1) c2) (by kernel_rfl) ?_ ?_
          · rintro w' s0
            try go_simp
          refine wpHeld_cons (.slice (some ⟨b2, 0, none⟩) (j + 1) c2) (by kernel_rfl) ?_ ?_
          · rintro w' s0
            try go_simp
          refine wpHeld_cons (.int .i64 ((j : Int) + 1)) (by kernel_rfl) ?_ ?_
          · rintro w' s0
            try go_simp
          refine wpHeld_cons (.int .i64 (j : Int)) (by kernel_rfl) ?_ ?_
          · rintro w' s0
            try go_simp
          refine wpHeld_cons (.pointer (some ⟨b2, j, none⟩)) (by kernel_rfl) ?_ ?_
          · rintro w' s0
            try go_simp
          refine wpHeld_cons (.int .i64 (peakV l (j + 1))) (by kernel_rfl) ?_ ?_
          · rintro w' s0
            try go_simp
          refine wpHeld_cons (.slice (some ⟨b, off, none⟩) (j + 1) cap) (by kernel_rfl) ?_ ?_
          · rintro w' s0
            try go_simp
          refine wpHeld_nil ?_
          go_simp
          refine wpAnyH_one (i := 15) (by kernel_rfl) rfl (by kernel_rfl) (fun K' hK' => ?_)
          go_simp
          refine (peak_any _ b off _ _ l _ HR2.out (by omega)).mono ?_
          rintro e w5 ⟨rfl, hb5⟩
          have hc5 := (hb5.cell (p := ⟨b2, j, none⟩) hb2).trans hcell
          refine hK' _ _ hc5 ?_
          clear hK' K'
          refine wpAnyH_one (i := 16) (by kernel_rfl) rfl (by kernel_rfl) (fun K' hK' => ?_)
          go_simp
          refine hK' _ _ hc5 ?_
          clear hK' K'
          refine wpAnyH_one (i := 17) (by kernel_rfl) rfl (by kernel_rfl) (fun K' hK' => ?_)
          go_simp
          refine hK' _ _ hc5 ?_
          clear hK' K'
          refine wpAnyH_one (i := 18) (by kernel_rfl) rfl (by kernel_rfl) (fun K' hK' => ?_)
          go_simp
          refine hK' _ _ hc5 ?_
          clear hK' K'
          refine wpAnyH_done (by kernel_rfl) ?_ _
          refine NoPanic.normal ?_
          go_wp2
          go_ret
          exact ⟨rfl, HBE.out.drew.trans (hb5.mono HBE.out.size)⟩
        · have g1 : ((k : Int) == 0) = false := by simpa using hz
          have g2 : (f == 0) = false := by simpa using hfz
          have g3 : (f != 0) = true := by simpa using hfz
          have HZ := Lib.hid (show _ ∧ _ from ⟨hz, hfz⟩); clear hz hfz
          go_wp2_with fail
          go_quiet (fail)
          go_wp2
          go_ret
          exact ⟨rfl, below_drewN HBE.out _⟩

set_option maxHeartbeats 8000000 in
theorem metersHold_great (a : Option Addr) (b off n cap : Nat) (l : List Int) (f : Int) (w : World) (hR : Row w a b off n l) (hcap : n ≤ cap) (f1 : 2147483648 < f) (f2 : f ≤ 4294967295) :
    Calls Try.prog 6 #[.slice a n cap, .int .u32 f] w fun e w' => e = .returned (.bool true) ∧ Below w.heap.size w w' := by
  have hB := Below.refl w.heap.size w
  have R0 := hR
  clear hR
  go_enter Try.func6, Try.ntmps6
  go_wp2_with fail
  refine (sane_any _).mono ?_; rintro e w1 ⟨rfl, hb⟩
  replace R0 := R0.below hb (Nat.le_refl _)
  replace hB := below_after hB hb hB.size
  clear hb
  by_cases hk : 100 < n
  · go_wp2
    go_ret
    exact ⟨rfl, hB⟩
  go_wp2_with fail
  refine (hold_ok _ b off _ _ l (2147483648) _ R0 (by omega) (by omega) (by omega)).mono ?_; rintro e w2 ⟨v, rfl, hO, hb⟩
  obtain ⟨a2, b2, c2, rfl, R1, L1, M1⟩ := hO.row
  replace R0 := R0.below hb (Nat.le_refl _)
  replace hB := below_after hB hb hB.size
  clear hO hb
  rw [holdL_len] at R1 L1 ⊢
  have HR := Lib.hid R0; have HR1 := Lib.hid R1; have HB := Lib.hid hB
  clear R0 R1 hB M1
  go_wp2_with fail
  go_loopw [37] (fun i wr => ∃ k : Nat, k ≤ n ∧ i = .int .i64 k ∧ Below w2.heap.size w2 wr) (fun i _ => n - (intOf i).toNat)
  case atStart => exact ⟨0, Nat.zero_le _, rfl, Below.refl _ _⟩
  case round =>
    obtain ⟨k, hkn, rfl, hBr⟩ := hrel
    by_cases hlt : k < n
    · obtain rfl := HR.out.adr (by omega)
      obtain rfl := HR1.out.adr (by omega)
      have hcell := (HR1.out.below hBr (Nat.le_refl _)).cel k hlt
      rw [holdL_at hlt, ← want_hold l (2147483648) (by omega), Nat.zero_add] at hcell
      have HBr := Lib.hid hBr; clear hBr
      go_wp2_with fail
      go_loopw [10, 11] (fun v j wj => ∃ m : Nat, m ≤ k + 1 ∧ j = .int .i64 m ∧ v = .int .i64 (wantV l (2147483648) k m) ∧ Below w2.heap.size w2 wj) (fun _ j _ => k + 1 - (intOf j).toNat)
      case atStart => exact ⟨0, Nat.zero_le _, rfl, rfl, HBr.out⟩
      case round =>
        obtain ⟨m, hmk, rfl, rfl, hBj⟩ := hrel
        by_cases hjt : m < k + 1
        · have hRow := (HR.out.below hBj (Nat.le_refl _)).sub (i := m) (s := 1) (by omega)
          have wb := wantV_bd l (2147483648) k (by omega) m (by omega)
          have sb := sizeV_bd (l.getD m 0)
          have hW : wantV l (2147483648) k (m + 1) = max (wantV l (2147483648) k m) (sizeV (l.getD m 0) - 2147483648 * ((k : Int) - (m : Int))) := rfl
          have p0 : 0 ≤ 2147483648 * ((k : Int) - (m : Int)) := by omega
          have p1 : 2147483648 * ((k : Int) - (m : Int)) ≤ 214748364800 := by omega
          have HW := Lib.hid (show _ ∧ _ ∧ _ from ⟨hRow, hW, hBj⟩); clear hRow hW hBj
          go_wp2_with fail
          refine (peak_any _ b (off + m) _ _ _ _ HW.out.1 (by omega)).mono ?_; rintro e w4 ⟨rfl, hb⟩
          rw [peak_one]
          generalize hx : sizeV (l.getD m 0) = x at *
          have HX := Lib.hid (show _ ∧ _ from ⟨hx, below_after HW.out.2.2 hb HW.out.2.2.size⟩)
          clear hb hx
          by_cases hmx : wantV l (2147483648) k m < x - 2147483648 * ((k : Int) - (m : Int))
          all_goals
            go_wp2_with fail
            go_roundw
            case rel => exact ⟨m + 1, by omega, by go_num, by rw [HW.out.2.1]; congr 1; omega, HX.out.2⟩
            case measure => simp [intOf]; omega
        · obtain rfl : m = k + 1 := by omega
          have hcj := (HR1.out.below hBj (Nat.le_refl _)).cel k hlt
          go_wp2
          go_roundw
          case rel => exact ⟨k + 1, by omega, by go_num, hBj⟩
          case measure => simp [intOf]; omega
    · obtain rfl : k = n := by omega
      have hBe := below_after HB.out hBr HB.out.size
      have HBE := Lib.hid hBe
      clear hBe
      by_cases hz : k = 0
      · subst hz
        go_wp2_with fail
        go_quiet (fail)
        go_wp2
        go_ret
        exact ⟨rfl, below_drewN HBE.out _⟩
      · have g1 : ((k : Int) == 0) = false := by simpa using hz
        have HZ := Lib.hid hz; clear hz
        go_wp2_with fail
        go_quiet (fail)
        go_wp2
        go_ret
        exact ⟨rfl, below_drewN HBE.out _⟩

theorem metersHold_walk (a : Option Addr) (b off n cap : Nat) (l : List Int) (f : Int) (w : World) (hR : Row w a b off n l) (hcap : n ≤ cap) (f0 : 0 ≤ f) (f2 : f ≤ 4294967295) :
    Calls Try.prog 6 #[.slice a n cap, .int .u32 f] w fun e w' => e = .returned (.bool true) ∧ Below w.heap.size w w' := by
  by_cases h : f ≤ 2147483648
  · exact metersHold_small a b off n cap l f w hR hcap f0 h
  · exact metersHold_great a b off n cap l f w hR hcap (by omega) f2
end Go.Proofs.Ytgeplpigmjmfdaa
