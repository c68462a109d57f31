/- The walk of MetersTogether (layer 52). -/
import Derived.Test.YtgeplpigmjmfdaaMetSane
import Derived.Test.YtgeplpigmjmfdaaOwnRow
namespace Go.Proofs.Ytgeplpigmjmfdaa
open Go.ChangeShapes Go.WideShapes Go.ChangeAt Go.RowKit

theorem enV_app (l l' : List Int) (k : Nat) : enV (l ++ l') (l.length + k) = enV l l.length + enV l' k := by
  have h1 : ∀ j, j ≤ l.length → enV (l ++ l') j = enV l j := by
    intro j
    induction j with
    | zero => intro _; rfl
    | succ j ih =>
      intro hj
      simp only [enV]
      rw [ih (by omega)]
      congr 2
      simp [List.getD_eq_getElem?_getD, List.getElem?_append_left (show j < l.length by omega)]
  induction k with
  | zero => simp only [Nat.add_zero, enV]; rw [h1 _ (Nat.le_refl _)]; omega
  | succ k ih =>
    rw [← Nat.add_assoc]
    simp only [enV]
    rw [ih]
    have e : (l ++ l').getD (l.length + k) 0 = l'.getD k 0 := by
      simp [List.getD_eq_getElem?_getD, List.getElem?_append_right (show l.length ≤ l.length + k by omega)]
    rw [e]; omega
theorem peakV_app (l l' : List Int) (k : Nat) : peakV (l ++ l') (l.length + k) = max (peakV l l.length) (peakV l' k) := by
  have h1 : ∀ j, j ≤ l.length → peakV (l ++ l') j = peakV l j := by
    intro j
    induction j with
    | zero => intro _; rfl
    | succ j ih =>
      intro hj
      simp only [peakV]
      rw [ih (by omega)]
      congr 2
      simp [List.getD_eq_getElem?_getD, List.getElem?_append_left (show j < l.length by omega)]
  induction k with
  | zero => simp only [Nat.add_zero, peakV]; rw [h1 _ (Nat.le_refl _)]; have := peakV_bd l l.length; omega
  | succ k ih =>
    rw [← Nat.add_assoc]
    simp only [peakV]
    rw [ih]
    have e : (l ++ l').getD (l.length + k) 0 = l'.getD k 0 := by
      simp [List.getD_eq_getElem?_getD, List.getElem?_append_right (show l.length ≤ l.length + k by omega)]
    rw [e]; omega

/-- All of the first k are quiet. -/
def quietV (l : List Int) : Nat → Bool
  | 0 => true
  | k + 1 => quietV l k && decide (0 ≤ clip (l.getD k 0)) && decide (clip (l.getD k 0) < 256)
theorem quiet_en (l : List Int) (k : Nat) : (enV l k = 0) = (quietV l k = true) := by
  induction k with
  | zero => simp [enV, quietV]
  | succ k ih =>
    have b0 := (enV_bd l k).1
    have b1 := (sq_bd (l.getD k 0)).1
    have hs : sq (l.getD k 0) = 0 ↔ 0 ≤ clip (l.getD k 0) ∧ clip (l.getD k 0) < 256 := by
      unfold sq
      rw [Int.mul_eq_zero, or_self]
      omega
    simp only [enV, quietV, Bool.and_eq_true, decide_eq_true_eq]
    rw [← ih]
    apply propext
    constructor
    · intro h
      exact ⟨⟨by omega, (hs.1 (by omega)).1⟩, (hs.1 (by omega)).2⟩
    · rintro ⟨⟨h1, h2⟩, h3⟩
      have := hs.2 ⟨h2, h3⟩
      omega
/-- One of the first k has the size p. -/
def metV (l : List Int) (p : Int) (z : Bool) : Nat → Bool
  | 0 => z
  | k + 1 => metV l p z k || decide (clip (l.getD k 0) = p) || decide (-clip (l.getD k 0) = p)
theorem met_peak (l : List Int) (z : Bool) (hz : l.length = 0 → z = true) : metV l (peakV l l.length) z l.length = true := by
  have H : ∀ k, (peakV l k = 0 ∧ k = 0) ∨ ∃ i, i < k ∧ sizeV (l.getD i 0) = peakV l k := by
    intro k
    induction k with
    | zero => exact .inl ⟨rfl, rfl⟩
    | succ k ih =>
      right
      have sb := (sizeV_bd (l.getD k 0)).1
      simp only [peakV]
      rcases ih with ⟨h1, rfl⟩ | ⟨i, hi, he⟩
      · exact ⟨0, by omega, by rw [h1]; omega⟩
      · by_cases h : peakV l k ≤ sizeV (l.getD k 0)
        · exact ⟨k, by omega, by omega⟩
        · exact ⟨i, by omega, by omega⟩
  have mono : ∀ p k j, k ≤ j → metV l p z k = true → metV l p z j = true := by
    intro p k j hkj hk
    induction j with
    | zero => obtain rfl : k = 0 := by omega
              exact hk
    | succ j ih =>
      rcases Nat.lt_or_ge k (j + 1) with h | h
      · simp only [metV, ih (by omega), Bool.true_or]
      · obtain rfl : k = j + 1 := by omega
        exact hk
  rcases H l.length with ⟨_, h0⟩ | ⟨i, hi, he⟩
  · rw [h0]; simp only [metV]; exact hz h0
  · refine mono _ (i + 1) _ (by omega) ?_
    simp only [metV, Bool.or_eq_true, decide_eq_true_eq]
    unfold sizeV at he
    omega
theorem size_peak (l : List Int) {i n : Nat} (hi : i < n) : sizeV (l.getD i 0) ≤ peakV l n := by
  induction n with
  | zero => omega
  | succ n ih =>
    simp only [peakV]
    rcases Nat.lt_or_ge i n with h | h
    · have := ih h; omega
    · obtain rfl : i = n := by omega
      omega
theorem en_most (l : List Int) (n : Nat) (p M : Int) (hp : peakV l n ≤ p) (hM : M = (p + 255) / 256) : enV l n ≤ (n : Int) * M * M := by
  have H : ∀ k, k ≤ n → enV l k ≤ (k : Int) * (M * M) := by
    intro k
    induction k with
    | zero => intro _; simp [enV]
    | succ k ih =>
      intro hk
      have i1 := ih (by omega)
      have sp := size_peak l (show k < n by omega)
      have sq1 : sq (l.getD k 0) ≤ M * M := by
        have c1 := clip_lo (l.getD k 0); have c2 := clip_hi (l.getD k 0)
        have hq : -M ≤ clip (l.getD k 0) / 256 ∧ clip (l.getD k 0) / 256 ≤ M := by
          unfold sizeV at sp
          omega
        unfold sq
        generalize clip (l.getD k 0) / 256 = q at *
        have b1 : 0 ≤ (M - q) * (M + q) := Int.mul_nonneg (by omega) (by omega)
        have b2 : (M - q) * (M + q) = M * M - q * q := by grind
        omega
      simp only [enV]
      rw [show ((k + 1 : Nat) : Int) * (M * M) = (k : Int) * (M * M) + M * M by grind]
      omega
  have := H n (Nat.le_refl _)
  rw [Int.mul_assoc]
  exact this

set_option maxRecDepth 100000 in
set_option maxHeartbeats 8000000 in
theorem metersTogether_walk (a a' : Option Addr) (b b' off off' n n' cap cap' : Nat) (l l' : List Int) (w : World) (hR : Row w a b off n l) (hR' : Row w a' b' off' n' l') (hnc : a = none → cap = 0) (hnc' : a' = none → cap' = 0) :
    Calls Try.prog 4 #[.slice a n cap, .slice a' n' cap'] w fun e w' => e = .returned (.bool true) ∧ Below w.heap.size w w' := by
  have hB := Below.refl w.heap.size w
  have Ra := hR
  have Rb := hR'
  clear hR hR'
  go_enter Try.func4, Try.ntmps4
  go_wp2_with fail
  refine (sane_any _).mono ?_; rintro e w1 ⟨rfl, hb⟩
  replace Ra := Ra.below hb (Nat.le_refl _)
  replace Rb := Rb.below hb (Nat.le_refl _)
  replace hB := below_after hB hb hB.size
  clear hb
  by_cases hk : 150 < n
  · go_wp2
    go_ret
    exact ⟨rfl, hB⟩
  by_cases hk' : 150 < n'
  · go_wp2
    go_ret
    exact ⟨rfl, hB⟩
  have HB := Lib.hid hB; clear hB
  have HNC := Lib.hid (show _ ∧ _ from ⟨hnc, hnc'⟩); clear hnc hnc'
  have HR := Lib.hid (show _ ∧ _ from ⟨Ra, Rb⟩)
  have la : l.length = n := Ra.len
  have lb : l'.length = n' := Rb.len
  have HL := Lib.hid (show _ ∧ _ from ⟨la, lb⟩); clear la lb
  clear Ra Rb
  go_wp2_with (first
    | (at_builtin; refine wpList_append_row rfl (.tmp 32) (.tmp 33) rfl w1.heap.size _ [] rfl (Ints.empty w1) _ b off _ _ l rfl (HR.out.1.below ((Below.refl _ _).alloc (Nat.le_refl _) _) (Nat.le_refl _)) HNC.out.1 (by simp; omega) (by simp) ?_; intro v1 w2 hO1 hB1 hgx; clear hgx; have hC1 := ((Below.refl w1.heap.size w1).alloc (Nat.le_refl _) _).trans hB1; rw [List.nil_append] at hO1; have hs1 := hC1.size)
    | (at_builtin; refine wpList_append_row rfl (.tmp 34) (.tmp 35) rfl w1.heap.size _ l rfl hO1 _ b' off' _ _ l' rfl (HR.out.2.below hC1 (Nat.le_refl _)) HNC.out.2 (by rw [HL.out.1]; omega) hs1 ?_; intro v2 w3 hO2 hB2 hgx; clear hgx; have hC2 := hC1.trans hB2)
    | (at_builtin; refine wpList_append_row rfl (.tmp 37) (.tmp 38) rfl w3.heap.size _ [] rfl (Ints.empty w3) _ b' off' _ _ l' rfl ((HR.out.2.below hC2 (Nat.le_refl _)).below ((Below.refl _ _).alloc (Nat.le_refl _) _) (Nat.le_refl _)) HNC.out.2 (by simp; omega) (by simp) ?_; intro v3 w4 hO3 hB3 hgx; clear hgx; have hC3 := ((Below.refl w3.heap.size w3).alloc (Nat.le_refl _) _).trans hB3; rw [List.nil_append] at hO3; have hs3 := hC3.size)
    | (at_builtin; refine wpList_append_row rfl (.tmp 39) (.tmp 40) rfl w3.heap.size _ l' rfl hO3 _ b off _ _ l rfl ((HR.out.1.below hC2 (Nat.le_refl _)).below hC3 (Nat.le_refl _)) HNC.out.1 (by rw [HL.out.2]; omega) hs3 ?_; intro v4 w5 hO4 hB4 hgx; clear hgx; have hC4 := hC3.trans hB4))
  have hB5 := hC2.trans (hC4.mono hC2.size)
  have hO2' := hO2.below hC4 (Nat.le_refl _)
  obtain ⟨a3, b3, c3, rfl, R3, -, -⟩ := hO2'.row
  obtain ⟨a4, b4, c4, rfl, R4, -, -⟩ := hO4.row
  have Ra := HR.out.1.below hB5 (Nat.le_refl _)
  have Rb := HR.out.2.below hB5 (Nat.le_refl _)
  have hB := below_after HB.out hB5 HB.out.size
  rw [List.length_append, HL.out.1, HL.out.2] at R3 R4 ⊢
  rw [List.length_append, HL.out.1, HL.out.2]
  clear hO1 hO2 hO2' hO3 hO4 hB1 hB2 hB3 hB4 hC1 hC2 hC3 hC4 hs1 hs3 hB5
  have f1 : enV (l ++ l') (n + n') = enV l n + enV l' n' := by have := enV_app l l' n'; rwa [HL.out.1] at this
  have f2 : enV (l' ++ l) (n' + n) = enV l n + enV l' n' := by have := enV_app l' l n; rw [HL.out.2] at this; omega
  have g1 : peakV (l ++ l') (n + n') = max (peakV l n) (peakV l' n') := by have := peakV_app l l' n'; rwa [HL.out.1] at this
  have g2 : peakV (l' ++ l) (n' + n) = peakV (l ++ l') (n + n') := by have := peakV_app l' l n; rw [HL.out.2] at this; omega
  have e1 := enV_bd l n; have e2 := enV_bd l' n'
  have p1 := peakV_bd l n; have p2 := peakV_bd l' n'
  have hQ := quiet_en (l ++ l') (n + n')
  have hlen : (l ++ l').length = n + n' := by rw [List.length_append, HL.out.1, HL.out.2]
  have hM := met_peak (l ++ l') (decide (n + n' = 0)) (by rw [hlen]; simp)
  rw [hlen] at hM
  have hMost := en_most (l ++ l') (n + n') _ _ (Int.le_refl _) rfl
  have hSz : ∀ i, i < n + n' → sizeV ((l ++ l').getD i 0) ≤ peakV (l ++ l') (n + n') := fun i hi => size_peak _ hi
  obtain ⟨z0, hz0⟩ : ∃ z0, z0 = decide (n + n' = 0) := ⟨_, rfl⟩
  rw [← hz0] at hM
  have HZ0 := Lib.hid hz0; clear hz0
  generalize l ++ l' = L at *
  generalize l' ++ l = L' at *
  rw [f1] at hQ hMost
  have HQ := Lib.hid (show _ ∧ _ ∧ _ ∧ _ from ⟨hQ, hM, hMost, hSz⟩)
  clear hQ hM hMost hSz
  have HG := Lib.hid (show _ ∧ _ from ⟨g1, g2⟩)
  clear g1 g2
  go_wp2_with fail
  refine (energy_ok _ b off _ _ l _ Ra (by omega)).mono ?_; rintro e w' ⟨rfl, rfl⟩
  go_wp2_with fail
  refine (energy_ok _ b' off' _ _ l' _ Rb (by omega)).mono ?_; rintro e w' ⟨rfl, rfl⟩
  go_wp2_with fail
  refine (energy_ok _ _ _ _ _ L _ R3 (by omega)).mono ?_; rintro e w' ⟨rfl, rfl⟩
  rw [f1]
  go_wp2_with fail
  refine (energy_ok _ _ _ _ _ L' _ R4 (by omega)).mono ?_; rintro e w' ⟨rfl, rfl⟩
  rw [f2]
  clear f1 f2
  go_wp2_with fail
  refine (peak_any _ _ _ _ _ L _ R3 (by omega)).mono ?_; rintro e w6 ⟨rfl, hb⟩
  replace Ra := Ra.below hb (Nat.le_refl _)
  replace Rb := Rb.below hb (Nat.le_refl _)
  replace R3 := R3.below hb (Nat.le_refl _)
  replace R4 := R4.below hb (Nat.le_refl _)
  replace hB := below_after hB hb hB.size
  clear hb
  go_wp2_with fail
  refine (peak_any _ b off _ _ l _ Ra (by omega)).mono ?_; rintro e w7 ⟨rfl, hb⟩
  replace Rb := Rb.below hb (Nat.le_refl _)
  replace R3 := R3.below hb (Nat.le_refl _)
  replace R4 := R4.below hb (Nat.le_refl _)
  replace hB := below_after hB hb hB.size
  clear hb
  go_wp2_with fail
  refine (peak_any _ b' off' _ _ l' _ Rb (by omega)).mono ?_; rintro e w8 ⟨rfl, hb⟩
  replace R3 := R3.below hb (Nat.le_refl _)
  replace R4 := R4.below hb (Nat.le_refl _)
  replace hB := below_after hB hb hB.size
  clear hb Ra Rb
  obtain ⟨P, hP⟩ : ∃ P, P = peakV L (n + n') := ⟨_, rfl⟩
  have hP1 : (peakV l n < peakV l' n' ∧ peakV l' n' = P) ∨ (¬ peakV l n < peakV l' n' ∧ peakV l n = P) := by have := HG.out.1; omega
  have pP := peakV_bd L (n + n')
  rw [← hP] at pP
  rw [← hP]
  have hP0 : n + n' = 0 → P = 0 := fun h => by rw [hP, h]; rfl
  have HP := Lib.hid (show _ ∧ _ ∧ _ from ⟨hP, HG.out.2.trans hP.symm, hP0⟩)
  clear hP hP0 HG
  rcases hP1 with ⟨hlt, hq⟩ | ⟨hlt, hq⟩
  all_goals
    rw [hq]
    rw [hq] at hlt
    have HH := Lib.hid hq; clear hq
    go_wp2_with fail
    refine (peak_any _ _ _ _ _ L' _ R4 (by omega)).mono ?_; rintro e w9 ⟨rfl, hb⟩
    rw [HP.out.2.1]
    replace R3 := R3.below hb (Nat.le_refl _)
    replace hB := below_after hB hb hB.size
    clear hb R4
    have HB2 := Lib.hid hB; have HR3 := Lib.hid R3; clear hB R3
    go_wp2_with fail
    all_goals
      go_loopw [16, 17, 112] (fun q m i wr => ∃ (k : Nat) (bq bm : Bool), k ≤ n + n' ∧ i = .int .i64 k ∧ q = .bool bq ∧ m = .bool bm ∧ bq = quietV L k ∧ (metV L P (z0) k = true → bm = true) ∧ wr = w9) (fun _ _ i _ => n + n' - (intOf i).toNat)
      case atStart => exact ⟨0, true, _, Nat.zero_le _, rfl, rfl, rfl, rfl, (by intro hz; have h0 := HZ0.out; have hp := HP.out.2.2; simp only [metV] at hz; rw [hz] at h0; have hn0 : n + n' = 0 := of_decide_eq_true h0.symm; first | (exfalso; omega) | (simp [hp hn0])), rfl⟩
      case round =>
        obtain ⟨k, bq, bm, hkn, rfl, rfl, rfl, hbq, hbm, rfl⟩ := hrel
        by_cases hlt2 : k < n + n'
        · obtain rfl := HR3.out.adr (by omega)
          have hcell := HR3.out.cel k hlt2
          rw [Nat.zero_add] at hcell
          have hs := HQ.out.2.2.2 k hlt2
          rw [← HP.out.1] at hs
          unfold sizeV at hs
          have hq2 : quietV L (k + 1) = (quietV L k && decide (0 ≤ clip (L.getD k 0)) && decide (clip (L.getD k 0) < 256)) := rfl
          have hm2 : metV L P (z0) (k + 1) = (metV L P (z0) k || decide (clip (L.getD k 0) = P) || decide (-clip (L.getD k 0) = P)) := rfl
          have l1 := clip_lo (L.getD k 0); have l2 := clip_hi (L.getD k 0)
          generalize hx : L.getD k 0 = x at *
          have HS := Lib.hid (show _ ∧ _ ∧ _ ∧ _ from ⟨hbq, hbm, hq2, hm2⟩); clear hbq hbm hq2 hm2 hx
          go_wp2_with (go_at_call 18; refine (rclip_any _ _).mono ?_; rintro e w' ⟨rfl, rfl⟩)
          all_goals
            have k1 := HS.out.1; have k2 := HS.out.2.1; have k3 := HS.out.2.2.1; have k4 := HS.out.2.2.2
            refine ⟨⟨k + 1, _, _, by omega, by go_num, rfl, rfl, by rw [k3, ← k1]; grind, by rw [k4]; grind, trivial⟩, by simp [intOf]; omega⟩
        · obtain rfl : k = n + n' := by omega
          have hb : bm = true := hbm (by have := HQ.out.2.1; rwa [← HP.out.1] at this)
          subst hb
          have hQ := HQ.out.1
          have hMost := HQ.out.2.2.1
          rw [← HP.out.1] at hMost
          obtain ⟨M, hM⟩ : ∃ M, (P + 255) / 256 = M := ⟨_, rfl⟩
          have m0 : 0 ≤ M := by omega
          have m1 : M ≤ 8388608 := by omega
          rw [hM] at hMost
          have t0 : 0 ≤ ((n + n' : Nat) : Int) * M := Int.mul_nonneg (by omega) m0
          have t1 : ((n + n' : Nat) : Int) * M ≤ 300 * 8388608 := Int.mul_le_mul (by omega) m1 m0 (by omega)
          have t2 : 0 ≤ ((n + n' : Nat) : Int) * M * M := Int.mul_nonneg t0 m0
          have t3 : ((n + n' : Nat) : Int) * M * M ≤ 300 * 8388608 * 8388608 := Int.mul_le_mul t1 m1 m0 (by omega)
          rw [show ((n + n' : Nat) : Int) = (n : Int) + (n' : Int) by omega] at t0 t1 t2 t3 hMost
          rw [hbq]
          by_cases hz : enV l n + enV l' n' = 0
          · have hq1 : quietV L (n + n') = true := hQ.mp hz
            have HBQ := Lib.hid (show _ ∧ _ from ⟨hbq, hQ⟩); clear hbq hQ
            go_wp2
            go_ret
            first | exact ⟨rfl, HB2.out⟩ | (exfalso; omega)
          · have hq1 : quietV L (n + n') = false := by
              cases hc : quietV L (n + n') with
              | false => rfl
              | true => exact absurd (hQ.mpr hc) hz
            by_cases hn0 : n + n' = 0
            · rw [hn0] at hq1; simp [quietV] at hq1
            have hz1 : (enV l n + enV l' n' == 0) = false := by simpa using hz
            have HBQ := Lib.hid (show _ ∧ _ from ⟨hbq, hQ⟩); clear hbq hQ
            go_wp2
            go_ret
            first | exact ⟨rfl, HB2.out⟩ | (exfalso; omega)
end Go.Proofs.Ytgeplpigmjmfdaa
