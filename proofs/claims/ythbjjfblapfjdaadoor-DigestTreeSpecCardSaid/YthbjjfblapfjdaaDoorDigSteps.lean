/- How many steps an index has from the root (layer 2). -/
import Derived.Test.YthbjjfblapfjdaaDoorDigRClimb
namespace Go.Proofs.YthbjjfblapfjdaaDoor
open Go.ChangeShapes Go.WideShapes Go.ChangeAt Go.RowKit
theorem steps_any (i n : Nat) (hi : i < n) (hn : n ≤ 1099511627776) (w : World) :
    Calls Tryd.prog 39 #[.int .i64 i, .int .i64 n] w fun e w' => e = .returned (.int .i64 (stepsN i n)) ∧ w' = w := by
  go_enter Tryd.func39, Tryd.ntmps39
  go_wp2_with fail
  go_loopw [0, 1, 5] (fun x y z wr => ∃ i' n' m : Nat, Hid (stepsN i n = m + stepsN i' n') ∧ i' < n' ∧ m + n' ≤ n ∧ x = .int .i64 i' ∧ y = .int .i64 n' ∧ z = .int .i64 m ∧ wr = w) (fun _ y _ _ => (intOf y).toNat)
  case atStart => exact ⟨i, n, 0, Lib.hid (by omega), hi, by omega, rfl, rfl, rfl, rfl⟩
  case round =>
    obtain ⟨i', n', m, HS, hi', hm, rfl, rfl, rfl, rfl⟩ := hrel
    by_cases h1 : 1 < n'
    · have j1 : (1 : Int) < (n' : Int) := by omega
      have j2 : (n' : Int) > 1 := by omega
      obtain ⟨k, hk⟩ : ∃ k, k = halfN n' := ⟨_, rfl⟩
      have hk0 : 0 < k := by rw [hk]; exact halfN_pos n'
      have hkn : k < n' := by rw [hk]; exact halfN_lt h1
      have cl := fun W => left_any n' h1 (by omega) W
      simp only [← hk] at cl
      have u3 : IntKind.i64.wrap ((m : Int) + 1) = ((m + 1 : Nat) : Int) := (wrap_id (by omega)).trans (by omega)
      by_cases hik : i' < k
      · have hs := stepsN_low h1 hk hik
        have HT := Lib.hid (show stepsN i n = (m + 1) + stepsN i' k by have := HS.out; omega)
        clear hs HS hk
        have j3 : (i' : Int) < (k : Int) := by omega
        go_wp2_with (go_at_call 33; refine (cl _).mono ?_; rintro e w' ⟨rfl, hw'⟩; subst w')
        go_roundw
        case rel => exact ⟨i', k, m + 1, HT, hik, by omega, by go_num, by go_num, by go_num, trivial⟩
        case measure => simp [intOf]; omega
      · have hs := stepsN_high h1 hk (by omega : k ≤ i')
        have HT := Lib.hid (show stepsN i n = (m + 1) + stepsN (i' - k) (n' - k) by have := HS.out; omega)
        clear hs HS hk
        have j3 : ¬ (i' : Int) < (k : Int) := by omega
        have u1 : IntKind.i64.wrap ((i' : Int) - (k : Int)) = ((i' - k : Nat) : Int) := (wrap_id (by omega)).trans (by omega)
        have u2 : IntKind.i64.wrap ((n' : Int) - (k : Int)) = ((n' - k : Nat) : Int) := (wrap_id (by omega)).trans (by omega)
        go_wp2_with (go_at_call 33; refine (cl _).mono ?_; rintro e w' ⟨rfl, hw'⟩; subst w')
        go_roundw
        case rel => exact ⟨i' - k, n' - k, m + 1, HT, by omega, by omega, by go_num, by go_num, by go_num, trivial⟩
        case measure => simp [intOf]; omega
    · obtain rfl : n' = 1 := by omega
      have HT := Lib.hid (show stepsN i n = m by have := HS.out; rw [stepsN_one] at this; omega)
      clear HS
      go_wp2
      go_ret
      exact ⟨by rw [HT.out]; rfl, rfl⟩
theorem length_any : ∀ (n : Nat), n ≤ 1099511627776 → ∀ (i : Nat) (w : World), i < n → 
    Calls Tryd.prog 41 #[.int .i64 i, .int .i64 n] w fun e w' => e = .returned (.int .i64 (stepsN i n)) ∧ w' = w := by
  intro n
  induction n using Nat.strongRecOn with
  | ind n ih =>
    intro hn i w hi
    by_cases h1 : 1 < n
    · have j1 : ((n : Int) == 1) = false := by simp; omega
      obtain ⟨k, hk⟩ : ∃ k, k = halfN n := ⟨_, rfl⟩
      have hk0 : 0 < k := by rw [hk]; exact halfN_pos n
      have hkn : k < n := by rw [hk]; exact halfN_lt h1
      have cl := fun W => half_any n h1 (by omega) W
      simp only [← hk] at cl
      have hb := stepsN_lt n i (by omega)
      by_cases hik : i < k
      · have hs := stepsN_low h1 hk hik
        have u3 : wrap64 (1 + (stepsN i k : Int)) = ((stepsN i n : Nat) : Int) := by unfold wrap64; omega
        have IH := ih k hkn (by omega) i w hik
        have HI := Lib.hid u3
        clear hs hk ih hb u3
        have j3 : (i : Int) < (k : Int) := by omega
        go_enter Tryd.func41, Tryd.ntmps41
        go_wp2_with (first | (go_at_call 35; refine (cl _).mono ?_; rintro e w' ⟨rfl, hw'⟩; subst w') | (go_at_call 41; refine IH.mono ?_; rintro e w' ⟨rfl, hw'⟩; subst w'))
        go_ret
        exact ⟨congrArg (fun z => Ending.returned (.int .i64 z)) HI.out, rfl⟩
      · have hs := stepsN_high h1 hk (by omega : k ≤ i)
        have u3 : wrap64 (1 + (stepsN (i - k) (n - k) : Int)) = ((stepsN i n : Nat) : Int) := by unfold wrap64; omega
        have u1 : IntKind.i64.wrap ((i : Int) - (k : Int)) = ((i - k : Nat) : Int) := (wrap_id (by omega)).trans (by omega)
        have u2 : IntKind.i64.wrap ((n : Int) - (k : Int)) = ((n - k : Nat) : Int) := (wrap_id (by omega)).trans (by omega)
        have IH := ih (n - k) (by omega) (by omega) (i - k) w (by omega)
        have HI := Lib.hid u3
        clear hs hk ih hb u3
        have j3 : ¬ (i : Int) < (k : Int) := by omega
        go_enter Tryd.func41, Tryd.ntmps41
        go_wp2_with (first | (go_at_call 35; refine (cl _).mono ?_; rintro e w' ⟨rfl, hw'⟩; subst w') | (go_at_call 41; refine IH.mono ?_; rintro e w' ⟨rfl, hw'⟩; subst w'))
        go_ret
        exact ⟨congrArg (fun z => Ending.returned (.int .i64 z)) HI.out, rfl⟩
    · obtain rfl : n = 1 := by omega
      clear ih
      rw [stepsN_one]
      go_enter Tryd.func41, Tryd.ntmps41
      go_wp2
      go_ret
      exact ⟨rfl, rfl⟩
theorem lsteps_any (i n : Nat) (hi : i < n) (hn : n ≤ 1099511627776) (w : World) :
    Calls Tryd.prog 24 #[.int .i64 i, .int .i64 n] w fun e w' => e = .returned (.int .i64 (stepsN i n)) ∧ w' = w := by
  go_enter Tryd.func24, Tryd.ntmps24
  go_wp2_with fail
  go_loopw [0, 1, 5] (fun x y z wr => ∃ i' n' m : Nat, Hid (stepsN i n = m + stepsN i' n') ∧ i' < n' ∧ m + n' ≤ n ∧ x = .int .i64 i' ∧ y = .int .i64 n' ∧ z = .int .i64 m ∧ wr = w) (fun _ y _ _ => (intOf y).toNat)
  case atStart => exact ⟨i, n, 0, Lib.hid (by omega), hi, by omega, rfl, rfl, rfl, rfl⟩
  case round =>
    obtain ⟨i', n', m, HS, hi', hm, rfl, rfl, rfl, rfl⟩ := hrel
    by_cases h1 : 1 < n'
    · have j1 : (1 : Int) < (n' : Int) := by omega
      have j2 : (n' : Int) > 1 := by omega
      have u3 : IntKind.i64.wrap ((m : Int) + 1) = ((m + 1 : Nat) : Int) := (wrap_id (by omega)).trans (by omega)
      generalize hW0 : wr = W0 at *
      clear hW0
      go_wp2_with fail
      go_loopw [6] (fun v wr => ∃ p : Nat, IsP n' p ∧ v = .int .i64 p ∧ wr = W0) (fun v _ => n' - (intOf v).toNat)
      case atStart => exact ⟨1, ⟨0, by omega, rfl⟩, rfl, rfl⟩
      case round =>
        obtain ⟨p, ⟨k, hk, hpe⟩, rfl, rfl⟩ := hrel
        have hp : 2 ^ k ≤ 2 ^ Nat.log2 (n' - 1) := Nat.pow_le_pow_right (by decide) hk
        have hl := Nat.log2_self_le (n := n' - 1) (by omega)
        have h0 : 0 < 2 ^ k := Nat.pow_pos (by decide)
        have hiff := half_step (k := k) h1
        have hs : 2 ^ (k + 1) = 2 * 2 ^ k := by rw [Nat.pow_succ]; omega
        rw [← hpe] at hiff hs h0 hp
        have u1 : IntKind.i64.wrap (2 * (p : Int)) = ((2 * p : Nat) : Int) := (wrap_id (by omega)).trans (by omega)
        have u2 : IntKind.i64.wrap ((p : Int) * 2) = ((2 * p : Nat) : Int) := (wrap_id (by omega)).trans (by omega)
        by_cases hlt : 2 * p < n'
        · have i1 : ((2 * p : Nat) : Int) < (n' : Int) := by omega
          have HK := Lib.hid (show _ ∧ _ ∧ _ from ⟨hiff, hs, hl⟩)
          clear hiff hs hl hp hpe
          go_wp2
          go_roundw
          case rel => exact ⟨2 * p, ⟨k + 1, HK.out.1.1 hlt, HK.out.2.1.symm⟩, by go_num, trivial⟩
          case measure => simp [intOf]; omega
        · have i1 : ¬ ((2 * p : Nat) : Int) < (n' : Int) := by omega
          have hh : p = halfN n' := by
            unfold halfN
            rw [hpe]
            congr 1
            have := mt hiff.2 hlt
            omega
          have hk0 : 0 < p := h0
          have hkn : p < n' := by rw [hh]; exact halfN_lt h1
          clear hiff hs hl hp hpe
          by_cases hik : i' < p
          · have hs := stepsN_low h1 hh hik
            have HT := Lib.hid (show stepsN i n = (m + 1) + stepsN i' p by have := HS.out; omega)
            clear hs HS hh
            have j3 : (i' : Int) < (p : Int) := by omega
            go_wp2
            go_roundw
            case rel => exact ⟨i', p, m + 1, HT, hik, by omega, by go_num, by go_num, by go_num, trivial⟩
            case measure => simp [intOf]; omega
          · have hs := stepsN_high h1 hh (by omega : p ≤ i')
            have HT := Lib.hid (show stepsN i n = (m + 1) + stepsN (i' - p) (n' - p) by have := HS.out; omega)
            clear hs HS hh
            have j3 : ¬ (i' : Int) < (p : Int) := by omega
            have u4 : IntKind.i64.wrap ((i' : Int) - (p : Int)) = ((i' - p : Nat) : Int) := (wrap_id (by omega)).trans (by omega)
            have u5 : IntKind.i64.wrap ((n' : Int) - (p : Int)) = ((n' - p : Nat) : Int) := (wrap_id (by omega)).trans (by omega)
            go_wp2
            go_roundw
            case rel => exact ⟨i' - p, n' - p, m + 1, HT, by omega, by omega, by go_num, by go_num, by go_num, trivial⟩
            case measure => simp [intOf]; omega
    · obtain rfl : n' = 1 := by omega
      have HT := Lib.hid (show stepsN i n = m by have := HS.out; rw [stepsN_one] at this; omega)
      clear HS
      go_wp2
      go_ret
      exact ⟨by rw [HT.out]; rfl, rfl⟩
end Go.Proofs.YthbjjfblapfjdaaDoor
