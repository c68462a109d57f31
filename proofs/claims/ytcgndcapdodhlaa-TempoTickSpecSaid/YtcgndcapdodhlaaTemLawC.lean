/- The walk of TempoTickSpec (layer 9). -/
import Derived.Test.YtcgndcapdodhlaaTemLawA
namespace Go.Proofs.Ytcgndcapdodhlaa
open Go.ChangeShapes Go.WideShapes Go.ChangeAt Go.RowKit

set_option maxHeartbeats 2000000 in
theorem rtick_any (a : Option Addr) (b off len cap : Nat) (l : List Tp) (pos : Int) (w : World) (hM : Ts w a len b off l) (hn : len ≤ 9223372036854775807) :
    Calls Try.prog 16 #[.slice a len cap, .int .i64 pos] w fun e w' => (∃ t r, TickRes l pos t r ∧ e = .returned (.tuple #[.int .i64 t, .int .i64 r])) ∧ Below w.heap.size w w' := by
  by_cases hch : Map l
  case neg =>
    have hc := chk_no hch
    go_enter Try.func16, Try.ntmps16
    go_wp2_with fail
    refine (rcheck_any a len cap b off l _ hM hn).mono ?_; rintro e w2 ⟨rfl, hB⟩; rw [hc]
    clear hM
    go_wp2
    exact bodyPost_ret (by simp [results, Try.results16, go_sem]) rfl ⟨⟨0, 90, .inl ⟨hch, rfl, rfl⟩, rfl⟩, hB⟩
  have hc := chk_yes hch
  by_cases ht : 0 ≤ pos ∧ pos ≤ 1099511627776
  case neg =>
    have HC := Lib.hid hch
    clear hch
    by_cases q : pos < 0
    · go_enter Try.func16, Try.ntmps16
      go_wp2_with fail
      refine (rcheck_any a len cap b off l _ hM hn).mono ?_; rintro e w2 ⟨rfl, hB⟩; rw [hc]
      clear hM
      go_wp2
      exact bodyPost_ret (by simp [results, Try.results16, go_sem]) rfl ⟨⟨0, 1, .inr (.inl ⟨HC.out, ht, rfl, rfl⟩), rfl⟩, hB⟩
    · have q2 : 1099511627776 < pos := by omega
      go_enter Try.func16, Try.ntmps16
      go_wp2_with fail
      refine (rcheck_any a len cap b off l _ hM hn).mono ?_; rintro e w2 ⟨rfl, hB⟩; rw [hc]
      clear hM
      go_wp2
      exact bodyPost_ret (by simp [results, Try.results16, go_sem]) rfl ⟨⟨0, 1, .inr (.inl ⟨HC.out, ht, rfl, rfl⟩), rfl⟩, hB⟩
  have q1 : ¬ pos < 0 := by omega
  have q2 : ¬ 1099511627776 < pos := by omega
  have hl : 0 < len := by have := hch.1; rw [hM.1] at this; omega
  obtain ⟨rfl, hbw⟩ := hM.2.1 hl
  have HM := Lib.hid (show _ ∧ _ ∧ _ from ⟨hM, hch, ht⟩)
  clear hM hch
  go_enter Try.func16, Try.ntmps16
  go_wp2_with fail
  refine (rcheck_any _ len cap b off l _ HM.out.1 hn).mono ?_; rintro e w2 ⟨rfl, hB⟩; rw [hc]
  have HB0 := Lib.hid hB
  clear hB
  go_wp2
  go_loopw [6, 7] (fun lo hi wr => ∃ p q : Int, lo = .int .i64 p ∧ hi = .int .i64 q ∧ 0 ≤ p ∧ p ≤ q ∧ q ≤ 16777216 ∧ smp l p ≤ pos ∧ (q < 16777216 → pos < smp l (q + 1)) ∧ Below w.heap.size w wr) (fun lo hi _ => (intOf hi - intOf lo).toNat)
  case atStart => exact ⟨0, 16777216, rfl, rfl, by omega, by omega, by omega, by rw [smp_zero HM.out.2.1]; omega, fun h => by omega, HB0.out⟩
  case round =>
    obtain ⟨p, q, rfl, rfl, h0, h1, h2, h3, h4, hB⟩ := hrel
    have HF := Lib.hid (show _ ∧ _ from ⟨h3, h4⟩)
    clear h3 h4
    by_cases hlt : p < q
    · have u1 : IntKind.i64.wrap (p + q) = p + q := wrap_id (by omega)
      have u2 : IntKind.i64.wrap (p + q + 1) = p + q + 1 := wrap_id (by omega)
      have u3 : Int.tdiv (p + q + 1) 2 = (p + q + 1) / 2 := Int.tdiv_eq_ediv_of_nonneg (by omega)
      go_wp2_with fail
      try rw [u3]
      obtain ⟨h, hh⟩ : ∃ h : Int, h = (p + q + 1) / 2 := ⟨_, rfl⟩
      have m1 : p < h := by omega
      have m2 : h ≤ q := by omega
      rw [← hh]
      clear hh u3 u2 u1
      refine (rat_any b off len cap l h wr (HM.out.1.grown hB) HM.out.2.1 (by omega) (by omega)).mono ?_
      rintro e w4 ⟨rfl, hb4⟩
      replace hB := below_after hB hb4 hB.size
      clear hb4
      by_cases z1 : smp l h ≤ pos
      · have d : decide (smp l h ≤ pos) = true := decide_eq_true z1
        have Q1 := Lib.hid z1
        clear z1
        go_wp2
        go_roundw
        case rel => exact ⟨h, q, rfl, rfl, by omega, by omega, by omega, Q1.out, HF.out.2, hB⟩
        case measure => simp [intOf]; omega
      · have d : decide (smp l h ≤ pos) = false := decide_eq_false z1
        have Q1 := Lib.hid z1
        clear z1
        have u4 : IntKind.i64.wrap (h - 1) = h - 1 := wrap_id (by omega)
        go_wp2
        go_roundw
        case rel => exact ⟨p, h - 1, rfl, by go_num, by omega, by omega, by omega, HF.out.1, fun _ => by have := Q1.out; rw [Int.sub_add_cancel]; omega, hB⟩
        case measure => simp [intOf]; omega
    · obtain rfl : p = q := by omega
      go_wp2
      exact bodyPost_ret (by simp [results, Try.results16, go_sem]) rfl ⟨⟨p, 0, .inr (.inr ⟨HM.out.2.1, HM.out.2.2, ⟨by omega, by omega, HF.out.1, HF.out.2⟩, rfl⟩), rfl⟩, hB⟩

theorem tickRes_one {l : List Tp} {pos s e t f : Int} (h1 : TickRes l pos s e) (h2 : TickRes l pos t f) : s = t ∧ e = f := by
  rcases h1 with ⟨a, b, c⟩ | ⟨a, b, c, d⟩ | ⟨a, b, c, d⟩ <;> rcases h2 with ⟨a', b', c'⟩ | ⟨a', b', c', d'⟩ | ⟨a', b', c', d'⟩
  · exact ⟨by rw [b, b'], by rw [c, c']⟩
  · exact absurd a' a
  · exact absurd a' a
  · exact absurd a a'
  · exact ⟨by rw [c, c'], by rw [d, d']⟩
  · exact absurd b' b
  · exact absurd a a'
  · exact absurd b b'
  · exact ⟨tickIs_one a c c', by rw [d, d']⟩

set_option maxHeartbeats 4000000 in
theorem tempoTickSpec_walk (a : Option Addr) (b off len cap : Nat) (l : List Tp) (tick : Int) (w : World) (hM : Ts w a len b off l) (hn : len ≤ 9223372036854775807) (hb : 0 < len → ∃ c tb fr, w.heap[b]? = some (.cells c tb fr)) :
    Calls Try.prog 4 #[.slice a len cap, .int .i64 tick] w fun e w' => e = .returned (.bool true) ∧ Below w.heap.size w w' := by
  have HM := Lib.hid (show _ ∧ _ from ⟨hM, hb⟩)
  clear hb hM
  go_enter Try.func4, Try.ntmps4
  go_wp2_with fail
  refine (sane_any w).mono ?_; rintro e w1 ⟨rfl, hB⟩
  by_cases hf : (len : Int) ≤ 80
  case neg =>
    have hf2 : (80 : Int) < (len : Int) := by omega
    go_wp2
    go_ret
    exact ⟨rfl, hB⟩
  have hf2 : ¬ (80 : Int) < (len : Int) := by omega
  go_wp2_with fail
  refine (ttick_any a b off len cap l tick _ (HM.out.1.grown hB) hn (blk_has HM.out.2 hB)).mono ?_; rintro e w2 ⟨⟨s, g, hT, rfl⟩, hb⟩
  replace hB := below_after hB hb hB.size
  clear hb
  go_wp2_with fail
  refine (rtick_any a b off len cap l tick _ (HM.out.1.grown hB) hn).mono ?_; rintro e w3 ⟨⟨t, f, hT2, rfl⟩, hb⟩
  replace hB := below_after hB hb hB.size
  clear hb
  obtain ⟨rfl, rfl⟩ := tickRes_one hT hT2
  clear hT hT2
  go_wp2
  go_ret
  exact ⟨rfl, hB⟩
end Go.Proofs.Ytcgndcapdodhlaa
