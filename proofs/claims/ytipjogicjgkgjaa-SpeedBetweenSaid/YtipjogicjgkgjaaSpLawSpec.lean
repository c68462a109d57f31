/- The walk of SpeedSpec (layer 26). -/
import Derived.Test.YtipjogicjgkgjaaSpSane
namespace Go.Proofs.Ytipjogicjgkgjaa
open Go.ChangeShapes Go.WideShapes Go.ChangeAt Go.RowKit

def atR (l : List Int) (n : Nat) (a b i : Int) : Int := if ErrAt n a b i then smpI l a b i.toNat else 0
def atE (n : Nat) (a b i : Int) : Int := if ErrAt n a b i then 0 else 1
theorem at_any (a : Option Addr) (b off n cap : Nat) (l : List Int) (aa bb i : Int) (w : World) (hR : Row w a b off n l) (hn : n ≤ 16777216) :
    Calls Try.prog 13 #[.slice a n cap, .int .i64 aa, .int .i64 bb, .int .i64 i] w fun e w' => e = .returned (.tuple #[.int .i64 (atR l n aa bb i), .int .i64 (atE n aa bb i)]) ∧ Below w.heap.size w w' := by
  unfold atR atE
  by_cases h : ErrAt n aa bb i
  · rw [if_pos h, if_pos h]
    exact at_ok a b off n cap l aa bb i w hR hn h.1 h.2.2.1 h.2.2.2
  · rw [if_neg h, if_neg h]
    exact (at_no a n cap aa bb i w hn h).mono fun e w' hh => ⟨hh.1, by rw [hh.2]; exact Below.refl _ _⟩
theorem rat_any (a : Option Addr) (b off n cap : Nat) (l : List Int) (aa bb i : Int) (w : World) (hR : Row w a b off n l) (hn : n ≤ 16777216) :
    Calls Try.prog 14 #[.slice a n cap, .int .i64 aa, .int .i64 bb, .int .i64 i] w fun e w' => e = .returned (.tuple #[.int .i64 (atR l n aa bb i), .int .i64 (atE n aa bb i)]) ∧ Below w.heap.size w w' := by
  unfold atR atE
  by_cases h : ErrAt n aa bb i
  · rw [if_pos h, if_pos h]
    exact rat_ok a b off n cap l aa bb i w hR hn h.1 h.2.2.1 h.2.2.2
  · rw [if_neg h, if_neg h]
    exact (rat_no a n cap aa bb i w hn h).mono fun e w' hh => ⟨hh.1, by rw [hh.2]; exact Below.refl _ _⟩
def cvRes (l : List Int) (n : Nat) (a b : Int) : List Int := if Spd a b then convL l a b (lenV n a b).toNat else []
def cvE (a b : Int) : Int := if Spd a b then 0 else 1
theorem lenV_fits {n : Nat} {a b : Int} (hs : Spd a b) (hn : n ≤ 15000) : lenV n a b = (((lenV n a b).toNat : Nat) : Int) ∧ (lenV n a b).toNat ≤ 1000000 := by
  obtain ⟨⟨a1, a2⟩, ⟨b1, b2⟩, _⟩ := hs
  have h0 := (lenV_bd (n := n) (a := a) (b := b) (by omega) (by omega) a1 b1 b2).1
  refine ⟨by omega, ?_⟩
  unfold lenV at h0 ⊢
  by_cases h : (n : Int) = 0
  · rw [if_pos h]; decide
  · rw [if_neg h] at h0 ⊢
    have p0 : 0 ≤ ((n : Int) - 1) * b := Int.mul_nonneg (by omega) (by omega)
    have p1 : ((n : Int) - 1) * b ≤ ((n : Int) - 1) * 64 := Int.mul_le_mul_of_nonneg_left b2 (by omega)
    have q1 : ((n : Int) - 1) * b / a ≤ ((n : Int) - 1) * b := Int.ediv_le_self _ p0
    omega
theorem cvRes_len (l : List Int) {n : Nat} {a b : Int} (hn : n ≤ 15000) : (cvRes l n a b).length ≤ 1000000 := by
  unfold cvRes
  by_cases h : Spd a b
  · rw [if_pos h, convL_len]; exact (lenV_fits h hn).2
  · rw [if_neg h]; simp
theorem convert_all (a : Option Addr) (b off n cap : Nat) (l : List Int) (aa bb : Int) (w : World) (hR : Row w a b off n l) (hn : n ≤ 15000) :
    Calls Try.prog 15 #[.slice a n cap, .int .i64 aa, .int .i64 bb] w fun e w' => ∃ v, e = .returned (.tuple #[v, .int .i64 (cvE aa bb)]) ∧ Ints w' w.heap.size v (cvRes l n aa bb) ∧ Below w.heap.size w w' := by
  unfold cvE cvRes
  by_cases h : Spd aa bb
  · rw [if_pos h, if_pos h]
    exact convert_ok a b off n cap _ l aa bb w hR (by omega) h (lenV_fits h hn).1 (lenV_fits h hn).2
  · rw [if_neg h, if_neg h]
    exact (convert_no a n cap aa bb w h).mono fun e w' hh => ⟨_, hh.1, Ints.nil _ _, hh.2⟩
theorem rconvert_all (a : Option Addr) (b off n cap : Nat) (l : List Int) (aa bb : Int) (w : World) (hR : Row w a b off n l) (hn : n ≤ 15000) :
    Calls Try.prog 16 #[.slice a n cap, .int .i64 aa, .int .i64 bb] w fun e w' => ∃ v, e = .returned (.tuple #[v, .int .i64 (cvE aa bb)]) ∧ Ints w' w.heap.size v (cvRes l n aa bb) ∧ Below w.heap.size w w' := by
  unfold cvE cvRes
  by_cases h : Spd aa bb
  · rw [if_pos h, if_pos h]
    exact rconvert_ok a b off n cap _ l aa bb w hR (by omega) h (lenV_fits h hn).1 (lenV_fits h hn).2
  · rw [if_neg h, if_neg h]
    exact (rconvert_no a n cap aa bb w h).mono fun e w' hh => ⟨_, hh.1, Ints.nil _ _, hh.2⟩

set_option maxRecDepth 100000 in
set_option maxHeartbeats 4000000 in
theorem speedSpec_walk (a : Option Addr) (b off n cap : Nat) (l : List Int) (m aa bb i : Int) (w : World) (hR : Row w a b off n l) :
    Calls Try.prog 3 #[.slice a n cap, .int .i64 m, .int .i64 aa, .int .i64 bb, .int .i64 i] w fun e w' => e = .returned (.bool true) ∧ Below w.heap.size w w' := by
  have hB := Below.refl w.heap.size w
  have R0 := hR
  clear hR
  go_enter Try.func3, Try.ntmps3
  go_wp2_with fail
  refine (sane_any _).mono ?_; rintro e w1 ⟨rfl, hb⟩
  replace R0 := R0.below hb (Nat.le_refl _)
  replace hB := below_after hB hb hB.size
  clear hb
  by_cases hk : 60 < n
  · have hd : decide ((n : Int) ≤ 60) = false := decide_eq_false (by omega)
    go_wp2_with fail
    refine (few_any _ _ _ _).mono ?_; rintro e w' ⟨rfl, rfl⟩; rw [hd]
    go_wp2
    go_ret
    exact ⟨rfl, hB⟩
  have hd : decide ((n : Int) ≤ 60) = true := decide_eq_true (by omega)
  have hl := cvRes_len l (n := n) (a := aa) (b := bb) (by omega)
  go_wp2_with fail
  refine (few_any _ _ _ _).mono ?_; rintro e w' ⟨rfl, rfl⟩; rw [hd]
  go_wp2_with fail
  refine (len_any _ _ _ _).mono ?_; rintro e w' ⟨rfl, rfl⟩
  go_wp2_with fail
  refine (rlen_any _ _ _ _).mono ?_; rintro e w' ⟨rfl, rfl⟩
  go_wp2_with fail
  refine (at_any _ b off _ _ l _ _ _ _ R0 (by omega)).mono ?_; rintro e w2 ⟨rfl, hb⟩
  replace R0 := R0.below hb (Nat.le_refl _)
  replace hB := below_after hB hb hB.size
  clear hb
  go_wp2_with fail
  refine (rat_any _ b off _ _ l _ _ _ _ R0 (by omega)).mono ?_; rintro e w3 ⟨rfl, hb⟩
  replace R0 := R0.below hb (Nat.le_refl _)
  replace hB := below_after hB hb hB.size
  clear hb
  go_wp2_with fail
  refine (convert_all _ b off _ _ l _ _ _ R0 (by omega)).mono ?_; rintro e w4 ⟨v4, rfl, hO, hb⟩
  obtain ⟨a4, b4, c4, rfl, R1, L1, M1⟩ := hO.row
  clear hO
  replace R0 := R0.below hb (Nat.le_refl _)
  replace hB := below_after hB hb hB.size
  clear hb
  go_wp2_with fail
  refine (rconvert_all _ b off _ _ l _ _ _ R0 (by omega)).mono ?_; rintro e w5 ⟨v5, rfl, hO, hb⟩
  obtain ⟨a5, b5, c5, rfl, R2, L2, M2⟩ := hO.row
  clear hO
  replace R1 := R1.below hb (Nat.le_refl _)
  replace hB := below_after hB hb hB.size
  clear hb
  go_wp2_with fail
  refine (same_any _ _ _ _ _ _ _ _ _ _ _ _ _ R1 R2 (by omega) (by omega) rfl).mono ?_; rintro e w6 ⟨rfl, hb⟩
  replace hB := below_after hB hb hB.size
  clear hb
  go_wp2_with fail
  go_ret
  exact ⟨rfl, hB⟩
end Go.Proofs.Ytipjogicjgkgjaa
