/- The walk of MetersSpec (layer 52). -/
import Derived.Test.YtgeplpigmjmfdaaMetSane
namespace Go.Proofs.Ytgeplpigmjmfdaa
open Go.ChangeShapes Go.WideShapes Go.ChangeAt Go.RowKit

def winOk (s h : Int) : Prop := (1 ≤ s ∧ s ≤ 65536) ∧ (1 ≤ h ∧ h ≤ 16777216)
instance (s h : Int) : Decidable (winOk s h) := by unfold winOk; infer_instance
def winE (s h : Int) : Int := if winOk s h then 0 else 1
def winRes (l : List Int) (s h : Int) (n : Nat) : List Int := if winOk s h then winL l s.toNat h.toNat (cnt n s.toNat h.toNat) else []
theorem winRes_len (l : List Int) (s h : Int) (n : Nat) : (winRes l s h n).length ≤ n + 1 := by
  unfold winRes
  split
  · rw [winL_len]; exact cnt_le
  · simp
theorem windows_all (a : Option Addr) (b off n cap : Nat) (s h : Int) (l : List Int) (w : World) (hR : Row w a b off n l) (hn : n ≤ 65536) :
    Calls Try.prog 11 #[.slice a n cap, .int .i64 s, .int .i64 h] w fun e w' => ∃ v, e = .returned (.tuple #[v, .int .i64 (winE s h)]) ∧ Ints w' w.heap.size v (winRes l s h n) ∧ Below w.heap.size w w' := by
  unfold winE winRes
  by_cases hv : winOk s h
  · rw [if_pos hv, if_pos hv]
    obtain ⟨⟨h1, h2⟩, h3, h4⟩ := hv
    obtain ⟨s', rfl⟩ := Int.eq_ofNat_of_zero_le (show 0 ≤ s by omega)
    obtain ⟨h', rfl⟩ := Int.eq_ofNat_of_zero_le (show 0 ≤ h by omega)
    exact windows_ok a b off n cap s' h' l w hR hn (by omega) (by omega) (by omega) (by omega)
  · rw [if_neg hv, if_neg hv]
    exact (windows_no a n cap s h w hv).mono fun e w' hh => ⟨_, hh.1, Ints.nil _ _, hh.2⟩
theorem rwindows_all (a : Option Addr) (b off n cap : Nat) (s h : Int) (l : List Int) (w : World) (hR : Row w a b off n l) (hn : n ≤ 65536) (hcap : n ≤ cap) (hcm : cap ≤ 9223372036854775807) :
    Calls Try.prog 12 #[.slice a n cap, .int .i64 s, .int .i64 h] w fun e w' => ∃ v, e = .returned (.tuple #[v, .int .i64 (winE s h)]) ∧ Ints w' w.heap.size v (winRes l s h n) ∧ Below w.heap.size w w' := by
  unfold winE winRes
  by_cases hv : winOk s h
  · rw [if_pos hv, if_pos hv]
    obtain ⟨⟨h1, h2⟩, h3, h4⟩ := hv
    obtain ⟨s', rfl⟩ := Int.eq_ofNat_of_zero_le (show 0 ≤ s by omega)
    obtain ⟨h', rfl⟩ := Int.eq_ofNat_of_zero_le (show 0 ≤ h by omega)
    exact rwindows_ok a b off n cap s' h' l w hR hn hcap hcm (by omega) (by omega) (by omega) (by omega)
  · rw [if_neg hv, if_neg hv]
    exact (rwindows_no a n cap s h w hv).mono fun e w' hh => ⟨_, hh.1, Ints.nil _ _, by rw [hh.2]; exact Below.refl _ _⟩
def holdOk (f : Int) : Prop := 0 ≤ f ∧ f ≤ 2147483648
instance (f : Int) : Decidable (holdOk f) := by unfold holdOk; infer_instance
def holdE (f : Int) : Int := if holdOk f then 0 else 1
def holdRes (l : List Int) (f : Int) (n : Nat) : List Int := if holdOk f then holdL l f n else []
theorem holdRes_len (l : List Int) (f : Int) (n : Nat) : (holdRes l f n).length ≤ n := by
  unfold holdRes
  split
  · rw [holdL_len]; exact Nat.le_refl _
  · simp
theorem hold_all (a : Option Addr) (b off n cap : Nat) (f : Int) (l : List Int) (w : World) (hR : Row w a b off n l) (hn : n ≤ 100000) :
    Calls Try.prog 13 #[.slice a n cap, .int .i64 f] w fun e w' => ∃ v, e = .returned (.tuple #[v, .int .i64 (holdE f)]) ∧ Ints w' w.heap.size v (holdRes l f n) ∧ Below w.heap.size w w' := by
  unfold holdE holdRes
  by_cases hv : holdOk f
  · rw [if_pos hv, if_pos hv]
    exact hold_ok a b off n cap l f w hR hn hv.1 hv.2
  · rw [if_neg hv, if_neg hv]
    exact (hold_no a n cap f w hv).mono fun e w' hh => ⟨_, hh.1, Ints.nil _ _, by rw [hh.2]; exact Below.refl _ _⟩
theorem rhold_all (a : Option Addr) (b off n cap : Nat) (f : Int) (l : List Int) (w : World) (hR : Row w a b off n l) (hn : n ≤ 100000) :
    Calls Try.prog 14 #[.slice a n cap, .int .i64 f] w fun e w' => ∃ v, e = .returned (.tuple #[v, .int .i64 (holdE f)]) ∧ Ints w' w.heap.size v (holdRes l f n) ∧ Below w.heap.size w w' := by
  unfold holdE holdRes
  by_cases hv : holdOk f
  · rw [if_pos hv, if_pos hv]
    exact rhold_ok a b off n cap l f w hR hn hv.1 hv.2
  · rw [if_neg hv, if_neg hv]
    exact (rhold_no a n cap f w hv).mono fun e w' hh => ⟨_, hh.1, Ints.nil _ _, by rw [hh.2]; exact Below.refl _ _⟩

set_option maxHeartbeats 4000000 in
theorem metersSpec_walk (a : Option Addr) (b off n cap : Nat) (l : List Int) (s h f : Int) (w : World) (hR : Row w a b off n l) (hcap : n ≤ cap) (hcm : cap ≤ 9223372036854775807) :
    Calls Try.prog 3 #[.slice a n cap, .int .i64 s, .int .i64 h, .int .i64 f] w fun e w' => e = .returned (.bool true) ∧ Below w.heap.size w w' := by
  have hB := Below.refl w.heap.size w
  have R0 := hR
  clear hR
  go_enter Try.func3, Try.ntmps3
  go_wp2_with fail
  refine (sane_any _).mono ?_; rintro e w1 ⟨rfl, hb⟩
  replace R0 := R0.below hb (Nat.le_refl _)
  replace hB := below_after hB hb hB.size
  clear hb
  by_cases hk : 300 < n
  · go_wp2
    go_ret
    exact ⟨rfl, hB⟩
  have wl := winRes_len l s h n
  have hl := holdRes_len l f n
  go_wp2_with fail
  refine (energy_ok _ b off _ _ l _ R0 (by omega)).mono ?_; rintro e w' ⟨rfl, rfl⟩
  go_wp2_with fail
  refine (renergy_ok _ b off _ _ l _ R0 (by omega)).mono ?_; rintro e w' ⟨rfl, rfl⟩
  go_wp2_with fail
  refine (windows_all _ b off _ _ s h l _ R0 (by omega)).mono ?_; rintro e w2 ⟨v2, rfl, hO, hb⟩
  obtain ⟨a2, b2, c2, rfl, R1, L2, M2⟩ := hO.row
  clear hO
  replace R0 := R0.below hb (Nat.le_refl _)
  replace hB := below_after hB hb hB.size
  clear hb
  go_wp2_with fail
  refine (rwindows_all _ b off _ _ s h l _ R0 (by omega) hcap hcm).mono ?_; rintro e w3 ⟨v3, rfl, hO, hb⟩
  obtain ⟨a3, b3, c3, rfl, R2, L3, M3⟩ := hO.row
  clear hO
  replace R0 := R0.below hb (Nat.le_refl _)
  replace R1 := R1.below hb (Nat.le_refl _)
  replace hB := below_after hB hb hB.size
  clear hb
  go_wp2_with fail
  refine (hold_all _ b off _ _ f l _ R0 (by omega)).mono ?_; rintro e w4 ⟨v4, rfl, hO, hb⟩
  obtain ⟨a4, b4, c4, rfl, R3, L4, M4⟩ := hO.row
  clear hO
  replace R0 := R0.below hb (Nat.le_refl _)
  replace R1 := R1.below hb (Nat.le_refl _)
  replace R2 := R2.below hb (Nat.le_refl _)
  replace hB := below_after hB hb hB.size
  clear hb
  go_wp2_with fail
  refine (rhold_all _ b off _ _ f l _ R0 (by omega)).mono ?_; rintro e w5 ⟨v5, rfl, hO, hb⟩
  obtain ⟨a5, b5, c5, rfl, R4, L5, M5⟩ := hO.row
  clear hO
  replace R0 := R0.below hb (Nat.le_refl _)
  replace R1 := R1.below hb (Nat.le_refl _)
  replace R2 := R2.below hb (Nat.le_refl _)
  replace R3 := R3.below hb (Nat.le_refl _)
  replace hB := below_after hB hb hB.size
  clear hb
  go_wp2_with fail
  refine (peak_any _ b off _ _ l _ R0 (by omega)).mono ?_; rintro e w6 ⟨rfl, hb⟩
  replace R0 := R0.below hb (Nat.le_refl _)
  replace R1 := R1.below hb (Nat.le_refl _)
  replace R2 := R2.below hb (Nat.le_refl _)
  replace R3 := R3.below hb (Nat.le_refl _)
  replace R4 := R4.below hb (Nat.le_refl _)
  replace hB := below_after hB hb hB.size
  clear hb
  go_wp2_with fail
  refine (rpeak_any _ b off _ _ l _ R0 (by omega)).mono ?_; rintro e w' ⟨rfl, rfl⟩
  go_wp2_with fail
  refine (same_any _ _ _ _ _ _ _ _ _ _ _ _ _ R1 R2 (by omega) (by omega) rfl).mono ?_; rintro e w7 ⟨rfl, hb⟩
  replace R0 := R0.below hb (Nat.le_refl _)
  replace R1 := R1.below hb (Nat.le_refl _)
  replace R2 := R2.below hb (Nat.le_refl _)
  replace R3 := R3.below hb (Nat.le_refl _)
  replace R4 := R4.below hb (Nat.le_refl _)
  replace hB := below_after hB hb hB.size
  clear hb
  go_wp2_with fail
  refine (same_any _ _ _ _ _ _ _ _ _ _ _ _ _ R3 R4 (by omega) (by omega) rfl).mono ?_; rintro e w8 ⟨rfl, hb⟩
  replace R0 := R0.below hb (Nat.le_refl _)
  replace R1 := R1.below hb (Nat.le_refl _)
  replace R2 := R2.below hb (Nat.le_refl _)
  replace R3 := R3.below hb (Nat.le_refl _)
  replace R4 := R4.below hb (Nat.le_refl _)
  replace hB := below_after hB hb hB.size
  clear hb
  go_wp2_with fail
  go_ret
  exact ⟨rfl, hB⟩
end Go.Proofs.Ytgeplpigmjmfdaa
