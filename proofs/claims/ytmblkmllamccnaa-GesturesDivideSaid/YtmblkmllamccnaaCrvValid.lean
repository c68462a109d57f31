/- The contract of curves.valid (layer 11). -/
import Derived.Test.YtmblkmllamccnaaCrvShapes
import Derived.Test.YtmblkmllamccnaaTemSamp
namespace Go.Proofs.Ytmblkmllamccnaa
open Go.ChangeShapes Go.WideShapes Go.ChangeAt Go.RowKit

set_option maxRecDepth 100000 in
set_option maxHeartbeats 8000000 in
theorem valid_any (a : Option Addr) (b off n cap : Nat) (l : List Kt) (most : Int) (w : World) (h : Ks w a n b off l) (hn : n ≤ 9223372036854775807) :
    Calls Try.prog 38 #[.slice a n cap, .int .i64 most] w fun e w' => e = .returned (.bool (laneB most l)) ∧ Below w.heap.size w w' := by
  have hl := h.1
  have HK := Lib.hid h
  clear h
  by_cases h64 : n ≤ 1024
  case neg =>
    have e : laneB most l = false := laneB_f fun g => by have := g.1; omega
    have d : decide ((1024 : Int) < (n : Int)) = true := decide_eq_true (by omega)
    go_enter Try.func38, Try.ntmps38
    go_wp2
    go_ret
    exact ⟨by rw [e]; rfl, Below.refl _ _⟩
  have d : decide ((1024 : Int) < (n : Int)) = false := decide_eq_false (by omega)
  go_enter Try.func38, Try.ntmps38
  go_wp2_with (go_at_call 39; refine (shapes_any _).mono ?_; rintro e w1 ⟨rfl, hb⟩; unfold tabV tabC)
  have htab := blk_new w1 (.cells tabC 76)
  have hb1 := hb.alloc hb.size (.cells tabC 76)
  unfold tabC at htab
  have HT := Lib.hid (show _ ∧ _ from ⟨htab, hb1⟩)
  have hs0 := hb.size
  clear htab hb1 hb
  go_loopw [16] (fun i wr => ∃ k : Nat, k ≤ n ∧ i = .int .i64 k ∧ okKs most l k ∧ wr.heap[w1.heap.size]? = some (.cells tabC 76 (0, 0)) ∧ Below w.heap.size w wr) (fun i _ => n - (intOf i).toNat)
  case atStart => exact ⟨0, Nat.zero_le _, rfl, fun i hi => by omega, HT.out.1, HT.out.2⟩
  case round =>
    obtain ⟨k, hk, rfl, hok, htab, hb⟩ := hrel
    clear HT
    by_cases hlt : k < n
    case neg =>
      obtain rfl : k = n := by omega
      have EB := Lib.hid (laneB_t (l := l) (most := most) ⟨by omega, by rw [hl]; exact hok⟩)
      clear hok htab
      go_wp2
      go_ret
      exact ⟨by rw [EB.out]; rfl, hb⟩
    obtain ⟨rfl, hbw⟩ := HK.out.2.1 (by omega)
    obtain ⟨c0, c1, c2, c3, c4⟩ := (HK.out.grown hb).2.2 k hlt
    have hprev := (HK.out.grown hb).2.2
    have hz := hb.size
    have hbad : ¬ okK most (nthK l k) → laneB most l = false := fun hx => laneB_f fun g => hx (g.2 k (by rw [hl]; exact hlt)).1
    have hbad2 : 0 < k → ¬ (nthK l (k - 1)).1 < (nthK l k).1 → laneB most l = false := fun h1 hx => laneB_f fun g => hx ((g.2 k (by rw [hl]; exact hlt)).2 h1)
    have t0 : ∀ s : Nat, s < 3 → wr.cell? ⟨w1.heap.size, s * 3, none⟩ = some (.bool false) := fun s hs => by
      rw [blk_cell htab]
      have : s = 0 ∨ s = 1 ∨ s = 2 := by omega
      rcases this with e | e | e <;> subst e <;> rfl
    have t3 : wr.cell? ⟨w1.heap.size, 9, none⟩ = some (.bool true) := by rw [blk_cell htab]; rfl
    have hb2 := hb.alloc hz (.cells #[.int .i64 (nthK l k).1, .int .i64 (nthK l k).2.1, .int .i64 (nthK l k).2.2.1, .int .i64 (nthK l k).2.2.2.1, .int .i64 (nthK l k).2.2.2.2] 52)
    have uk : IntKind.i64.wrap ((k : Int) + 1) = (k : Int) + 1 := wrap_id (by omega)
    have i2 : (k : Int) < (n : Int) := by omega
    have hr1 : w1.heap.size < wr.heap.size := (Array.getElem?_eq_some_iff.1 htab).1
    have hbr : b < wr.heap.size := Nat.lt_of_lt_of_le hbw hz
    generalize hx : nthK l k = x at *
    obtain ⟨tA, V, S, A, B⟩ := x
    have HK2 := Lib.hid (show _ ∧ _ ∧ _ ∧ (_ ∧ _) ∧ _ from ⟨hx, hok, htab, ⟨hbad, hbad2⟩, hprev⟩)
    clear hx hok htab hbad hbad2 hprev hb
    dsimp only at c0 c1 c2 c3 c4 hb2
    by_cases q1 : 0 ≤ tA ∧ tA ≤ most
    case neg =>
      have v1 := within_f q1
      have EB := Lib.hid (HK2.out.2.2.2.1.1 (fun h => q1 ⟨h.1, h.2.1⟩))
      clear q1
      go_wp2_with (go_at_call 29; refine (within_any _ _ _ _).mono ?_; rintro e w' ⟨rfl, rfl⟩)
      go_ret
      exact ⟨by rw [EB.out]; rfl, hb2⟩

    have v1 := within_t q1
    by_cases q2 : -2147483648 ≤ V ∧ V ≤ 2147483647
    case neg =>
      have v2 := within_f q2
      have EB := Lib.hid (HK2.out.2.2.2.1.1 (fun h => q2 ⟨h.2.2.1, h.2.2.2.1⟩))
      clear q1 q2
      go_wp2_with (go_at_call 29; refine (within_any _ _ _ _).mono ?_; rintro e w' ⟨rfl, rfl⟩)
      go_ret
      exact ⟨by rw [EB.out]; rfl, hb2⟩

    have v2 := within_t q2
    by_cases q3 : 1 ≤ S ∧ S ≤ 3
    case neg =>
      have v3 := within_f q3
      have EB := Lib.hid (HK2.out.2.2.2.1.1 (fun h => q3 ⟨h.2.2.2.2.1, h.2.2.2.2.2.1⟩))
      clear q1 q2 q3
      go_wp2_with (go_at_call 29; refine (within_any _ _ _ _).mono ?_; rintro e w' ⟨rfl, rfl⟩)
      go_ret
      exact ⟨by rw [EB.out]; rfl, hb2⟩

    have v3 := within_t q3
    by_cases q4 : S = 3
    · subst q4
      by_cases q5 : 1 ≤ A ∧ A ≤ 16
      case neg =>
        have v5 := within_f q5
        have EB := Lib.hid (HK2.out.2.2.2.1.1 (fun h => q5 (by have := h.2.2.2.2.2.2.1 rfl; exact ⟨this.1, this.2.1⟩)))
        clear q1 q2 q3 q5
        go_wp2_with (go_at_call 29; refine (within_any _ _ _ _).mono ?_; rintro e w' ⟨rfl, rfl⟩)
        go_ret
        exact ⟨by rw [EB.out]; rfl, hb2⟩

      have v5 := within_t q5
      by_cases q6 : 1 ≤ B ∧ B ≤ 16
      case neg =>
        have v6 := within_f q6
        have EB := Lib.hid (HK2.out.2.2.2.1.1 (fun h => q6 (by have := h.2.2.2.2.2.2.1 rfl; exact ⟨this.2.2.1, this.2.2.2⟩)))
        clear q1 q2 q3 q5 q6
        go_wp2_with (go_at_call 29; refine (within_any _ _ _ _).mono ?_; rintro e w' ⟨rfl, rfl⟩)
        go_ret
        exact ⟨by rw [EB.out]; rfl, hb2⟩

      have v6 := within_t q6
      have HG := Lib.hid (show okK most (tA, V, 3, A, B) from ⟨q1.1, q1.2, q2.1, q2.2, show (1 : Int) ≤ 3 by decide, show (3 : Int) ≤ 3 by decide, fun _ => ⟨q5.1, q5.2, q6.1, q6.2⟩, fun h => absurd rfl h⟩)
      clear q1 q2 q3 q5 q6 t0
      by_cases hk0 : k = 0
      · subst hk0
        simp only [Nat.zero_mul, Nat.add_zero] at c0 c1 c2 c3 c4
        have hok1 := (okKs_succ most l 0).2 ⟨HK2.out.2.1, by rw [HK2.out.1]; exact HG.out, fun h => absurd h (by omega)⟩
        have HO := Lib.hid hok1
        clear hok1
        go_wp2_with (go_at_call 29; refine (within_any _ _ _ _).mono ?_; rintro e w' ⟨rfl, rfl⟩)
        go_quiet (fail)
        go_wp2
        go_roundw
        case rel => exact ⟨1, by omega, by go_num, HO.out, blk_alloc HK2.out.2.2.1 _, below_drewN hb2 _⟩
        case measure => simp [intOf] <;> omega
      · obtain ⟨j, rfl⟩ : ∃ j, k = j + 1 := ⟨k - 1, by omega⟩
        have ej : IntKind.i64.wrap (((j + 1 : Nat) : Int) - 1) = (j : Int) := by rw [wrap_id (by omega)]; omega
        have e0 := (HK2.out.2.2.2.2 j (by omega)).1
        have p0 : (0 : Int) < ((j + 1 : Nat) : Int) := by omega
        have i3 : (j : Int) < (n : Int) := by omega
        by_cases q9 : (nthK l j).1 < tA
        · have d9 : decide (tA ≤ (nthK l j).1) = false := decide_eq_false (by omega)
          have hok1 := (okKs_succ most l (j + 1)).2 ⟨HK2.out.2.1, by rw [HK2.out.1]; exact HG.out, fun _ => by rw [Nat.add_sub_cancel, HK2.out.1]; exact q9⟩
          have HO := Lib.hid hok1
          clear hok1 q9
          go_wp2_with (go_at_call 29; refine (within_any _ _ _ _).mono ?_; rintro e w' ⟨rfl, rfl⟩)
          go_quiet (fail)
          go_wp2
          go_roundw
          case rel => exact ⟨j + 1 + 1, by omega, by go_num, HO.out, blk_alloc HK2.out.2.2.1 _, below_drewN hb2 _⟩
          case measure => simp [intOf] <;> omega
        · have d9 : decide (tA ≤ (nthK l j).1) = true := decide_eq_true (by omega)
          have EB := Lib.hid (HK2.out.2.2.2.1.2 (by omega) (by rw [Nat.add_sub_cancel]; exact q9))
          clear q9
          go_wp2_with (go_at_call 29; refine (within_any _ _ _ _).mono ?_; rintro e w' ⟨rfl, rfl⟩)
          go_quiet (fail)
          go_wp2
          go_ret
          exact ⟨by rw [EB.out]; rfl, below_drewN hb2 _⟩

    · obtain ⟨s, rfl⟩ : ∃ s : Nat, S = (s : Int) := ⟨S.toNat, by omega⟩
      have ts := t0 s (by omega)
      have is : (s : Int) < 4 := by omega
      have is2 : s < 4 := by omega
      by_cases q5 : A = 0
      case neg =>
        have EB := Lib.hid (HK2.out.2.2.2.1.1 (fun h => q5 (h.2.2.2.2.2.2.2 q4).1))
        have n5 : (A != 0) = true := by simp [q5]
        clear q1 q2 q3 q4 q5 t0 t3
        cases v5 : within A 1 16
        · go_wp2_with (go_at_call 29; refine (within_any _ _ _ _).mono ?_; rintro e w' ⟨rfl, rfl⟩)
          go_ret
          exact ⟨by rw [EB.out]; rfl, hb2⟩
        · cases v6 : within B 1 16
          · go_wp2_with (go_at_call 29; refine (within_any _ _ _ _).mono ?_; rintro e w' ⟨rfl, rfl⟩)
            go_ret
            exact ⟨by rw [EB.out]; rfl, hb2⟩
          · go_wp2_with (go_at_call 29; refine (within_any _ _ _ _).mono ?_; rintro e w' ⟨rfl, rfl⟩)
            go_ret
            exact ⟨by rw [EB.out]; rfl, hb2⟩
      subst q5
      by_cases q6 : B = 0
      case neg =>
        have EB := Lib.hid (HK2.out.2.2.2.1.1 (fun h => q6 (h.2.2.2.2.2.2.2 q4).2))
        have v5 : within 0 1 16 = false := by decide
        have n6 : (B != 0) = true := by simp [q6]
        clear q1 q2 q3 q4 q6 t0 t3
        go_wp2_with (go_at_call 29; refine (within_any _ _ _ _).mono ?_; rintro e w' ⟨rfl, rfl⟩)
        go_ret
        exact ⟨by rw [EB.out]; rfl, hb2⟩
      subst q6
      have v5 : within 0 1 16 = false := by decide
      have HG := Lib.hid (show okK most (tA, V, (s : Int), 0, 0) from ⟨q1.1, q1.2, q2.1, q2.2, q3.1, q3.2, fun h => absurd h q4, fun _ => ⟨rfl, rfl⟩⟩)
      clear q1 q2 q3 q4 t0 t3
      by_cases hk0 : k = 0
      · subst hk0
        simp only [Nat.zero_mul, Nat.add_zero] at c0 c1 c2 c3 c4
        have hok1 := (okKs_succ most l 0).2 ⟨HK2.out.2.1, by rw [HK2.out.1]; exact HG.out, fun h => absurd h (by omega)⟩
        have HO := Lib.hid hok1
        clear hok1
        go_wp2_with (go_at_call 29; refine (within_any _ _ _ _).mono ?_; rintro e w' ⟨rfl, rfl⟩)
        go_quiet (fail)
        go_wp2
        go_roundw
        case rel => exact ⟨1, by omega, by go_num, HO.out, blk_alloc HK2.out.2.2.1 _, below_drewN hb2 _⟩
        case measure => simp [intOf] <;> omega
      · obtain ⟨j, rfl⟩ : ∃ j, k = j + 1 := ⟨k - 1, by omega⟩
        have ej : IntKind.i64.wrap (((j + 1 : Nat) : Int) - 1) = (j : Int) := by rw [wrap_id (by omega)]; omega
        have e0 := (HK2.out.2.2.2.2 j (by omega)).1
        have p0 : (0 : Int) < ((j + 1 : Nat) : Int) := by omega
        have i3 : (j : Int) < (n : Int) := by omega
        by_cases q9 : (nthK l j).1 < tA
        · have d9 : decide (tA ≤ (nthK l j).1) = false := decide_eq_false (by omega)
          have hok1 := (okKs_succ most l (j + 1)).2 ⟨HK2.out.2.1, by rw [HK2.out.1]; exact HG.out, fun _ => by rw [Nat.add_sub_cancel, HK2.out.1]; exact q9⟩
          have HO := Lib.hid hok1
          clear hok1 q9
          go_wp2_with (go_at_call 29; refine (within_any _ _ _ _).mono ?_; rintro e w' ⟨rfl, rfl⟩)
          go_quiet (fail)
          go_wp2
          go_roundw
          case rel => exact ⟨j + 1 + 1, by omega, by go_num, HO.out, blk_alloc HK2.out.2.2.1 _, below_drewN hb2 _⟩
          case measure => simp [intOf] <;> omega
        · have d9 : decide (tA ≤ (nthK l j).1) = true := decide_eq_true (by omega)
          have EB := Lib.hid (HK2.out.2.2.2.1.2 (by omega) (by rw [Nat.add_sub_cancel]; exact q9))
          clear q9
          go_wp2_with (go_at_call 29; refine (within_any _ _ _ _).mono ?_; rintro e w' ⟨rfl, rfl⟩)
          go_quiet (fail)
          go_wp2
          go_ret
          exact ⟨by rw [EB.out]; rfl, below_drewN hb2 _⟩
end Go.Proofs.Ytmblkmllamccnaa
