/- Contracts of layer 52 (meters) that only read: Peak, Energy, and the specification's Size, Peak, Sum, Energy; the comparison of lists. -/
import Derived.Test.YtgeplpigmjmfdaaMetLeaf
import Derived.Test.YtgeplpigmjmfdaaOwn
namespace Go.Proofs.Ytgeplpigmjmfdaa
open Go.ChangeShapes Go.WideShapes Go.ChangeAt Go.RowKit

def peakV (l : List Int) : Nat → Int
  | 0 => 0
  | k + 1 => max (peakV l k) (sizeV (l.getD k 0))
theorem peakV_bd (l : List Int) (k : Nat) : 0 ≤ peakV l k ∧ peakV l k ≤ 2147483648 := by
  induction k with
  | zero => simp [peakV]
  | succ k ih => have := sizeV_bd (l.getD k 0); simp only [peakV]; omega

set_option maxHeartbeats 400000 in
theorem peak_any (a : Option Addr) (b off n cap : Nat) (l : List Int) (w : World) (h : Row w a b off n l) (hn : n ≤ 1000000) :
    Calls Try.prog 15 #[.slice a n cap] w fun e w' => e = .returned (.int .i64 (peakV l n)) ∧ Below w.heap.size w w' := by
  have HR := Lib.hid h; clear h
  go_enter Try.func15, Try.ntmps15
  go_wp2
  go_loopw [2, 7] (fun s i wr => ∃ k : Nat, k ≤ n ∧ i = .int .i64 k ∧ s = .int .i64 (peakV l k) ∧ Below w.heap.size w wr) (fun _ i _ => n - (intOf i).toNat)
  case atStart => exact ⟨0, Nat.zero_le _, rfl, rfl, Below.refl _ _⟩
  case round =>
    obtain ⟨k, hk, rfl, rfl, hB⟩ := hrel
    by_cases hlt : k < n
    · obtain rfl := HR.out.adr (by omega)
      have hcell := (HR.out.below hB (Nat.le_refl _)).cel k hlt
      have sb := sizeV_bd (l.getD k 0)
      have pb := peakV_bd l k
      generalize hx : l.getD k 0 = x at *
      have HX := Lib.hid hx; clear hx
      go_wp2_with fail
      refine (size_any _ _).mono ?_; rintro e w1 ⟨rfl, hb1⟩
      have hB1 := below_after hB hb1 hB.size
      clear hB hb1
      go_wp2_with fail
      refine (greatest_any _ _ _ _ [sizeV x] _ (by omega) ?_).mono ?_
      · intro i hi
        match i, hi with
        | 0, _ => go_cell
      rintro e w' ⟨rfl, rfl⟩
      go_wp2_with fail
      go_roundw
      case rel => exact ⟨k + 1, by omega, by go_num, by simp only [peakV, HX.out]; rfl, hB1.alloc (hB1.size) _⟩
      case measure => simp [intOf]; omega
    · obtain rfl : k = n := by omega
      go_wp2
      go_ret
      exact ⟨rfl, hB⟩

def enV (l : List Int) : Nat → Int
  | 0 => 0
  | k + 1 => enV l k + sq (l.getD k 0)
theorem enV_bd (l : List Int) (k : Nat) : 0 ≤ enV l k ∧ enV l k ≤ 70368744177664 * (k : Int) := by
  induction k with
  | zero => simp [enV]
  | succ k ih => have := sq_bd (l.getD k 0); simp only [enV]; omega

set_option maxHeartbeats 400000 in
theorem energy_ok (a : Option Addr) (b off n cap : Nat) (l : List Int) (w : World) (h : Row w a b off n l) (hn : n ≤ 65536) :
    Calls Try.prog 9 #[.slice a n cap] w fun e w' => e = .returned (.tuple #[.int .i64 (enV l n), .int .i64 0]) ∧ w = w' := by
  have HR := Lib.hid h; clear h
  go_enter Try.func9, Try.ntmps9
  go_wp2
  go_loop [2, 11] (fun s i => ∃ k : Nat, k ≤ n ∧ i = .int .i64 k ∧ s = .int .i64 (enV l k)) (fun _ i => n - (intOf i).toNat)
  case atStart => exact ⟨0, Nat.zero_le _, rfl, rfl⟩
  case round =>
    obtain ⟨k, hk, rfl, rfl⟩ := hrel
    by_cases hlt : k < n
    · obtain rfl := HR.out.adr (by omega)
      have hcell := HR.out.cel k hlt
      have sb := sq_bd (l.getD k 0)
      have pb := enV_bd l k
      generalize hx : l.getD k 0 = x at *
      have HX := Lib.hid hx; clear hx
      go_wp2_with (go_at_call 19; refine (square_any _ _).mono ?_; rintro e w' ⟨rfl, rfl⟩)
      go_round
      case rel => exact ⟨k + 1, by omega, by go_num, by simp only [enV, HX.out]⟩
      case measure => simp [intOf]; omega
    · obtain rfl : k = n := by omega
      go_wp2
      go_ret2
      exact ⟨rfl, rfl⟩

theorem rsize_any (x : Int) (w : World) :
    Calls Try.prog 24 #[.int .i64 x] w fun e w' => e = .returned (.int .i64 (sizeV x)) ∧ w = w' := by
  have l1 := clip_lo x; have l2 := clip_hi x
  go_enter Try.func24, Try.ntmps24
  go_wp2_with (go_at_call 18; refine (rclip_any _ _).mono ?_; rintro e w' ⟨rfl, rfl⟩)
  all_goals (go_ret; exact ⟨ret_int (by unfold sizeV; omega), rfl⟩)

set_option maxHeartbeats 400000 in
theorem rpeak_any (a : Option Addr) (b off n cap : Nat) (l : List Int) (w : World) (h : Row w a b off n l) (hn : n ≤ 1000000) :
    Calls Try.prog 16 #[.slice a n cap] w fun e w' => e = .returned (.int .i64 (peakV l n)) ∧ w = w' := by
  have HR := Lib.hid h; clear h
  go_enter Try.func16, Try.ntmps16
  go_wp2
  go_loop [3, 4] (fun s i => ∃ k : Nat, k ≤ n ∧ i = .int .i64 k ∧ s = .int .i64 (peakV l k)) (fun _ i => n - (intOf i).toNat)
  case atStart => exact ⟨0, Nat.zero_le _, rfl, rfl⟩
  case round =>
    obtain ⟨k, hk, rfl, rfl⟩ := hrel
    by_cases hlt : k < n
    · obtain rfl := HR.out.adr (by omega)
      have hcell := HR.out.cel k hlt
      have sb := sizeV_bd (l.getD k 0)
      have pb := peakV_bd l k
      generalize hx : l.getD k 0 = x at *
      have HX := Lib.hid hx; clear hx
      go_wp2_with (go_at_call 24; refine (rsize_any _ _).mono ?_; rintro e w' ⟨rfl, rfl⟩)
      all_goals
        go_round
        case rel => exact ⟨k + 1, by omega, by go_num, by simp only [peakV, HX.out]; first | rfl | (congr 1; omega)⟩
        case measure => simp [intOf]; omega
    · obtain rfl : k = n := by omega
      go_wp2
      go_ret
      exact ⟨rfl, rfl⟩

set_option maxHeartbeats 400000 in
theorem rsum_any (a : Option Addr) (b off n cap : Nat) (l : List Int) (w : World) (h : Row w a b off n l) (hn : n ≤ 65536) :
    Calls Try.prog 20 #[.slice a n cap] w fun e w' => e = .returned (.int .i64 (enV l n)) ∧ w = w' := by
  have HR := Lib.hid h; clear h
  go_enter Try.func20, Try.ntmps20
  go_wp2
  go_loop [3, 4] (fun s i => ∃ k : Nat, k ≤ n ∧ i = .int .i64 k ∧ s = .int .i64 (enV l k)) (fun _ i => n - (intOf i).toNat)
  case atStart => exact ⟨0, Nat.zero_le _, rfl, rfl⟩
  case round =>
    obtain ⟨k, hk, rfl, rfl⟩ := hrel
    by_cases hlt : k < n
    · obtain rfl := HR.out.adr (by omega)
      have hcell := HR.out.cel k hlt
      have sb := sq_bd (l.getD k 0)
      have pb := enV_bd l k
      generalize hx : l.getD k 0 = x at *
      have l1 := clip_lo x; have l2 := clip_hi x
      have HX := Lib.hid hx; clear hx
      unfold sq at sb
      go_wp2_with (first | (go_at_call 18; refine (rclip_any _ _).mono ?_; rintro e w' ⟨rfl, rfl⟩) | (go_at_call 29; refine (rfloor_any _ _ _ (by omega) (by omega) (by omega) (by omega)).mono ?_; rintro e w' ⟨rfl, rfl⟩))
      go_round
      case rel => exact ⟨k + 1, by omega, by go_num, by simp only [enV, sq, HX.out]⟩
      case measure => simp [intOf]; omega
    · obtain rfl : k = n := by omega
      go_wp2
      go_ret
      exact ⟨rfl, rfl⟩

theorem renergy_ok (a : Option Addr) (b off n cap : Nat) (l : List Int) (w : World) (h : Row w a b off n l) (hn : n ≤ 65536) :
    Calls Try.prog 10 #[.slice a n cap] w fun e w' => e = .returned (.tuple #[.int .i64 (enV l n), .int .i64 0]) ∧ w = w' := by
  have HR := Lib.hid h; clear h
  go_enter Try.func10, Try.ntmps10
  go_wp2_with (go_at_call 20; refine (rsum_any _ b off _ _ l _ HR.out hn).mono ?_; rintro e w' ⟨rfl, rfl⟩)
  go_ret2
  exact ⟨rfl, rfl⟩

set_option maxHeartbeats 400000 in
/-- Equal lists. -/
theorem same_any (a a' : Option Addr) (b b' off off' n n' cap cap' : Nat) (l l' : List Int) (w : World) (h : Row w a b off n l) (h' : Row w a' b' off' n' l') (hn : n ≤ 1000000) (hn' : n' ≤ 1000000) (he : l = l') :
    Calls Try.prog 17 #[.slice a n cap, .slice a' n' cap'] w fun e w' => e = .returned (.bool true) ∧ Below w.heap.size w w' := by
  subst he
  obtain rfl : n = n' := by rw [← h.len, h'.len]
  have HR := Lib.hid h; have HR' := Lib.hid h'; clear h h'
  go_enter Try.func17, Try.ntmps17
  go_wp2
  go_loopw [13] (fun i wr => ∃ k : Nat, k ≤ n ∧ i = .int .i64 k ∧ Below w.heap.size w wr) (fun i _ => n - (intOf i).toNat)
  case atStart => exact ⟨0, Nat.zero_le _, rfl, Below.refl _ _⟩
  case round =>
    obtain ⟨k, hk, rfl, hB⟩ := hrel
    by_cases hlt : k < n
    · obtain rfl := HR.out.adr (by omega)
      obtain rfl := HR'.out.adr (by omega)
      have hc1 := (HR.out.below hB (Nat.le_refl _)).cel k hlt
      have hc2 := (HR'.out.below hB (Nat.le_refl _)).cel k hlt
      generalize hx : l.getD k 0 = x at *
      have HX := Lib.hid hx; clear hx
      go_wp2
      go_quiet (fail)
      go_wp2
      go_roundw
      case rel => exact ⟨k + 1, by omega, by go_num, below_drewN hB _⟩
      case measure => simp [intOf]; omega
    · obtain rfl : k = n := by omega
      go_wp2
      go_ret
      exact ⟨rfl, hB⟩
end Go.Proofs.Ytgeplpigmjmfdaa
