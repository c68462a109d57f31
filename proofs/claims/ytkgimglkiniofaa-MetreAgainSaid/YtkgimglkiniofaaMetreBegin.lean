/- The contract of the reference's Begin (layer 10). -/
import Derived.Test.YtkgimglkiniofaaMetreRef
import Derived.Test.YtkgimglkiniofaaMetreIter
namespace Go.Proofs.Ytkgimglkiniofaa
open Go.ChangeShapes Go.WideShapes Go.ChangeAt Go.RowKit

def capEnd (l : List Mt) (bar : Int) (k : Nat) : Int := if k + 1 < l.length then min bar (nthM l (k + 1)).1 else bar
def partOf (l : List Mt) (bar : Int) (k : Nat) : Int := if (nthM l k).1 < capEnd l bar k then (capEnd l bar k - (nthM l k).1) * (nthM l k).2.1 * (nthM l k).2.2 else 0
def beginK (l : List Mt) (bar : Int) : Nat → Int
  | 0 => 0
  | k + 1 => beginK l bar k + partOf l bar k
theorem capEnd_le (l : List Mt) (bar : Int) (k : Nat) : capEnd l bar k ≤ bar := by
  unfold capEnd; split <;> omega
theorem partOf_bd {l : List Mt} {bar : Int} {k : Nat} (h : okM (nthM l k)) (hb : bar ≤ 1048577) : 0 ≤ partOf l bar k ∧ partOf l bar k ≤ 2199025352704 := by
  obtain ⟨m1, m2, m3, m4, m5, m6⟩ := h
  have c := capEnd_le l bar k
  unfold partOf
  split
  · rename_i hlt
    have a1 : 0 ≤ (capEnd l bar k - (nthM l k).1) * (nthM l k).2.1 := Int.mul_nonneg (by omega) (by omega)
    have a2 : (capEnd l bar k - (nthM l k).1) * (nthM l k).2.1 ≤ 1048577 * (nthM l k).2.1 := Int.mul_le_mul_of_nonneg_right (by omega) (by omega)
    have a3 : 0 ≤ (capEnd l bar k - (nthM l k).1) * (nthM l k).2.1 * (nthM l k).2.2 := Int.mul_nonneg a1 (by omega)
    have a4 : (capEnd l bar k - (nthM l k).1) * (nthM l k).2.1 * (nthM l k).2.2 ≤ 33554464 * (nthM l k).2.2 := Int.mul_le_mul_of_nonneg_right (by omega) (by omega)
    omega
  · omega
theorem beginK_bd {l : List Mt} {bar : Int} (h : Changes l) (hb : bar ≤ 1048577) : ∀ k, k ≤ l.length → 0 ≤ beginK l bar k ∧ beginK l bar k ≤ 2199025352704 * k := by
  intro k
  induction k with
  | zero => intro _; simp [beginK]
  | succ k ih =>
    intro hk
    have i := ih (by omega)
    have p := partOf_bd (h.2.2.2 k (by omega)).1 hb
    simp only [beginK]
    omega

set_option maxHeartbeats 1000000 in
theorem begin_any (a : Option Addr) (n cap b off : Nat) (l : List Mt) (bar : Int) (w : World) (h : Ms w a n b off l) (hch : Changes l) (h0 : 0 ≤ bar) (h1 : bar ≤ 1048577) :
    Calls Try.prog 23 #[.slice a n cap, .int .i64 bar] w fun e w' => e = .returned (.int .i64 (beginK l bar l.length)) ∧ Below w.heap.size w w' := by
  have hn64 : n ≤ 64 := by rw [← h.1]; exact hch.2.1
  have hn0 : 0 < n := by rw [← h.1]; exact hch.1
  obtain ⟨hl, ha, hc⟩ := h
  obtain ⟨rfl, hbw⟩ := ha hn0
  have HC := Lib.hid hc; clear hc
  have HL := Lib.hid hl; have HCH := Lib.hid hch; clear hl hch ha
  go_enter Try.func23, Try.ntmps23
  go_wp2
  go_loopw [5, 6] (fun t i wr => ∃ k : Nat, k ≤ n ∧ i = .int .i64 k ∧ t = .int .i64 (beginK l bar k) ∧ Below w.heap.size w wr) (fun _ i _ => n - (intOf i).toNat)
  case atStart => exact ⟨0, Nat.zero_le _, rfl, rfl, Below.refl _ _⟩
  case round =>
    obtain ⟨k, hk, rfl, rfl, hb⟩ := hrel
    by_cases hlt : k < n
    · obtain ⟨c0, c1, c2⟩ := HC.out k hlt
      replace c0 := (hb.cell (p := ⟨b, off + k * 3, none⟩) hbw).trans c0
      replace c1 := (hb.cell (p := ⟨b, off + k * 3 + 1, none⟩) hbw).trans c1
      replace c2 := (hb.cell (p := ⟨b, off + k * 3 + 2, none⟩) hbw).trans c2
      have hm := (HCH.out.2.2.2 k (by rw [HL.out]; exact hlt)).1
      have bd := beginK_bd HCH.out h1 k (by rw [HL.out]; omega)
      have bd1 := beginK_bd HCH.out h1 (k + 1) (by rw [HL.out]; omega)
      have pd := partOf_bd (bar := bar) hm h1
      obtain ⟨m1, m2, m3, m4, m5, m6⟩ := hm
      by_cases hlast : k + 1 < n
      · obtain ⟨d0, _, _⟩ := HC.out (k + 1) hlast
        replace d0 := (hb.cell (p := ⟨b, off + (k + 1) * 3, none⟩) hbw).trans d0
        by_cases qe : bar = (nthM l (k + 1)).1
        · have ce : capEnd l bar k = bar := by unfold capEnd; rw [if_pos (by rw [HL.out]; exact hlast)]; omega
          have CE := Lib.hid ce; clear ce
          rw [← qe] at d0
          clear qe
          by_cases qg : (nthM l k).1 < bar
          · have a1 : 0 ≤ (bar - (nthM l k).1) * (nthM l k).2.1 := Int.mul_nonneg (by omega) (by omega)
            have a2 : (bar - (nthM l k).1) * (nthM l k).2.1 ≤ 1048577 * (nthM l k).2.1 := Int.mul_le_mul_of_nonneg_right (by omega) (by omega)
            have a3 : 0 ≤ (bar - (nthM l k).1) * (nthM l k).2.1 * (nthM l k).2.2 := Int.mul_nonneg a1 (by omega)
            have a4 : (bar - (nthM l k).1) * (nthM l k).2.1 * (nthM l k).2.2 ≤ 33554464 * (nthM l k).2.2 := Int.mul_le_mul_of_nonneg_right (by omega) (by omega)
            have pe : partOf l bar k = (bar - (nthM l k).1) * (nthM l k).2.1 * (nthM l k).2.2 := by unfold partOf; rw [CE.out, if_pos qg]
            have PE := Lib.hid pe; clear pe bd1 pd
            go_wp2
            go_quiet (fail)
            go_wp2
            go_roundw
            case rel => exact ⟨k + 1, by omega, by go_num, by rw [beginK, PE.out], below_drewN hb _⟩
            case measure => simp [intOf]; omega
          · have pe : partOf l bar k = 0 := by unfold partOf; rw [CE.out, if_neg qg]
            have PE := Lib.hid pe; clear pe bd1 pd
            go_wp2
            all_goals try (exfalso; omega)
            go_roundw
            case rel => exact ⟨k + 1, by omega, by go_num, by rw [beginK, PE.out, Int.add_zero], hb⟩
            case measure => simp [intOf]; omega
        by_cases qm : bar < (nthM l (k + 1)).1
        · have em : min bar (nthM l (k + 1)).1 = bar := by omega
          have ce : capEnd l bar k = bar := by unfold capEnd; rw [if_pos (by rw [HL.out]; exact hlast)]; exact em
          have CE := Lib.hid ce; clear ce
          by_cases qg : (nthM l k).1 < bar
          · have a1 : 0 ≤ (bar - (nthM l k).1) * (nthM l k).2.1 := Int.mul_nonneg (by omega) (by omega)
            have a2 : (bar - (nthM l k).1) * (nthM l k).2.1 ≤ 1048577 * (nthM l k).2.1 := Int.mul_le_mul_of_nonneg_right (by omega) (by omega)
            have a3 : 0 ≤ (bar - (nthM l k).1) * (nthM l k).2.1 * (nthM l k).2.2 := Int.mul_nonneg a1 (by omega)
            have a4 : (bar - (nthM l k).1) * (nthM l k).2.1 * (nthM l k).2.2 ≤ 33554464 * (nthM l k).2.2 := Int.mul_le_mul_of_nonneg_right (by omega) (by omega)
            have pe : partOf l bar k = (bar - (nthM l k).1) * (nthM l k).2.1 * (nthM l k).2.2 := by unfold partOf; rw [CE.out, if_pos qg]
            have PE := Lib.hid pe; clear pe bd1 pd
            go_wp2
            go_quiet (fail)
            go_wp2
            go_roundw
            case rel => exact ⟨k + 1, by omega, by go_num, by rw [beginK, PE.out], below_drewN hb _⟩
            case measure => simp [intOf]; omega
          · have pe : partOf l bar k = 0 := by unfold partOf; rw [CE.out, if_neg qg]
            have PE := Lib.hid pe; clear pe bd1 pd
            go_wp2
            all_goals try (exfalso; omega)
            go_roundw
            case rel => exact ⟨k + 1, by omega, by go_num, by rw [beginK, PE.out, Int.add_zero], hb⟩
            case measure => simp [intOf]; omega
        · have em : min bar (nthM l (k + 1)).1 = (nthM l (k + 1)).1 := by omega
          have ce : capEnd l bar k = (nthM l (k + 1)).1 := by unfold capEnd; rw [if_pos (by rw [HL.out]; exact hlast)]; exact em
          have CE := Lib.hid ce; clear ce
          by_cases qg : (nthM l k).1 < (nthM l (k + 1)).1
          · have a1 : 0 ≤ ((nthM l (k + 1)).1 - (nthM l k).1) * (nthM l k).2.1 := Int.mul_nonneg (by omega) (by omega)
            have a2 : ((nthM l (k + 1)).1 - (nthM l k).1) * (nthM l k).2.1 ≤ 1048577 * (nthM l k).2.1 := Int.mul_le_mul_of_nonneg_right (by omega) (by omega)
            have a3 : 0 ≤ ((nthM l (k + 1)).1 - (nthM l k).1) * (nthM l k).2.1 * (nthM l k).2.2 := Int.mul_nonneg a1 (by omega)
            have a4 : ((nthM l (k + 1)).1 - (nthM l k).1) * (nthM l k).2.1 * (nthM l k).2.2 ≤ 33554464 * (nthM l k).2.2 := Int.mul_le_mul_of_nonneg_right (by omega) (by omega)
            have pe : partOf l bar k = ((nthM l (k + 1)).1 - (nthM l k).1) * (nthM l k).2.1 * (nthM l k).2.2 := by unfold partOf; rw [CE.out, if_pos qg]
            have PE := Lib.hid pe; clear pe bd1 pd
            go_wp2
            go_quiet (fail)
            go_wp2
            go_roundw
            case rel => exact ⟨k + 1, by omega, by go_num, by rw [beginK, PE.out], below_drewN hb _⟩
            case measure => simp [intOf]; omega
          · have pe : partOf l bar k = 0 := by unfold partOf; rw [CE.out, if_neg qg]
            have PE := Lib.hid pe; clear pe bd1 pd
            go_wp2
            all_goals try (exfalso; omega)
            go_roundw
            case rel => exact ⟨k + 1, by omega, by go_num, by rw [beginK, PE.out, Int.add_zero], hb⟩
            case measure => simp [intOf]; omega
      · skip
        have ce : capEnd l bar k = bar := by unfold capEnd; rw [if_neg (by rw [HL.out]; exact hlast)]
        have CE := Lib.hid ce; clear ce
        by_cases qg : (nthM l k).1 < bar
        · have a1 : 0 ≤ (bar - (nthM l k).1) * (nthM l k).2.1 := Int.mul_nonneg (by omega) (by omega)
          have a2 : (bar - (nthM l k).1) * (nthM l k).2.1 ≤ 1048577 * (nthM l k).2.1 := Int.mul_le_mul_of_nonneg_right (by omega) (by omega)
          have a3 : 0 ≤ (bar - (nthM l k).1) * (nthM l k).2.1 * (nthM l k).2.2 := Int.mul_nonneg a1 (by omega)
          have a4 : (bar - (nthM l k).1) * (nthM l k).2.1 * (nthM l k).2.2 ≤ 33554464 * (nthM l k).2.2 := Int.mul_le_mul_of_nonneg_right (by omega) (by omega)
          have pe : partOf l bar k = (bar - (nthM l k).1) * (nthM l k).2.1 * (nthM l k).2.2 := by unfold partOf; rw [CE.out, if_pos qg]
          have PE := Lib.hid pe; clear pe bd1 pd
          go_wp2
          go_quiet (fail)
          go_wp2
          go_roundw
          case rel => exact ⟨k + 1, by omega, by go_num, by rw [beginK, PE.out], below_drewN hb _⟩
          case measure => simp [intOf]; omega
        · have pe : partOf l bar k = 0 := by unfold partOf; rw [CE.out, if_neg qg]
          have PE := Lib.hid pe; clear pe bd1 pd
          go_wp2
          go_roundw
          case rel => exact ⟨k + 1, by omega, by go_num, by rw [beginK, PE.out, Int.add_zero], hb⟩
          case measure => simp [intOf]; omega
    · obtain rfl : k = n := by omega
      go_wp2
      go_ret
      exact ⟨ret_int (by rw [HL.out]), hb⟩
end Go.Proofs.Ytkgimglkiniofaa
