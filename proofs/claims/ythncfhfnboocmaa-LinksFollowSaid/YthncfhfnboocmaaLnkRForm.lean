/- The reference's formed (layer 13). -/
import Derived.Test.YthncfhfnboocmaaLnkRLink
namespace Go.Proofs.Ythncfhfnboocmaa
open Go.ChangeShapes Go.WideShapes Go.ChangeAt Go.RowKit

noncomputable def fmdB (m : Int) (l : List Jt) (n : Nat) : Bool := by classical exact if okJs m l n ∧ apart l n then true else false
theorem fmdB_t {m : Int} {l : List Jt} {n : Nat} (h : okJs m l n ∧ apart l n) : fmdB m l n = true := if_pos h
theorem fmdB_f {m : Int} {l : List Jt} {n : Nat} (h : ¬ (okJs m l n ∧ apart l n)) : fmdB m l n = false := if_neg h

set_option maxRecDepth 100000 in
set_option maxHeartbeats 8000000 in
theorem rFormed (m : Int) (a : Option Addr) (b off n cap : Nat) (l : List Jt) (w : World) (h : Js w a n b off l) (hn : n ≤ 256) :
    Calls Try.prog 25 #[.int .i64 m, .slice a n cap] w fun e w' => e = .returned (.bool (fmdB m l n)) ∧ Below w.heap.size w w' := by
  have HK := Lib.hid h
  clear h
  go_enter Try.func25, Try.ntmps25
  go_wp2
  go_loopw [5] (fun i wr => ∃ k : Nat, k ≤ n ∧ i = .int .i64 k ∧ (okJs m l k ∧ apart l k) ∧ Below w.heap.size w wr) (fun i _ => n - (intOf i).toNat)
  case atStart => exact ⟨0, Nat.zero_le _, rfl, ⟨fun i hi => by omega, fun i j h1 h2 => by omega⟩, Below.refl _ _⟩
  case round =>
    obtain ⟨k, hk, rfl, hall, hb⟩ := hrel
    by_cases hlt : k < n
    case neg =>
      obtain rfl : k = n := by omega
      have EB := Lib.hid (fmdB_t hall)
      clear hall
      go_wp2
      go_ret
      exact ⟨by rw [EB.out]; rfl, hb⟩
    obtain ⟨rfl, hbw⟩ := HK.out.2.1 (by omega)
    obtain ⟨c0, c1, c2, c3, c4⟩ := (HK.out.grown hb).2.2 k hlt
    have hz := hb.size
    have hb2 := hb.alloc hz (.cells #[.int .i64 (nthJ l k).1, .int .i64 (nthJ l k).2.1, .int .i64 (nthJ l k).2.2.1, .int .i64 (nthJ l k).2.2.2.1, .int .i64 (nthJ l k).2.2.2.2] 34)
    have uk : IntKind.i64.wrap ((k : Int) + 1) = (k : Int) + 1 := wrap_id (by omega)
    have i2 : (k : Int) < (n : Int) := by omega
    have hbz : b < wr.heap.size := Nat.lt_of_lt_of_le hbw hz
    have hbad : ¬ okJ m (nthJ l k) → fmdB m l n = false := fun g => fmdB_f fun q => g (q.1 k hlt)
    have hdup : ∀ j, j < k → (nthJ l j).2.1 = (nthJ l k).2.1 → fmdB m l n = false := fun j hj g => fmdB_f fun q => q.2 j k hj hlt g
    have hgood : okJ m (nthJ l k) → (∀ j, j < k → (nthJ l j).2.1 ≠ (nthJ l k).2.1) → okJs m l (k + 1) ∧ apart l (k + 1) := fun g1 g2 =>
      ⟨fun i hi => by
        by_cases e : i = k
        · subst e; exact g1
        · exact hall.1 i (by omega), fun i j h1 h2 => by
        by_cases e : j = k
        · subst e; exact g2 i h1
        · exact hall.2 i j h1 (by omega)⟩
    have HX := Lib.hid (show _ ∧ _ ∧ _ ∧ _ from ⟨hbad, hdup, hgood, hb2⟩)
    have hblk := Lib.hid (blk_new wr (.cells #[.int .i64 (nthJ l k).1, .int .i64 (nthJ l k).2.1, .int .i64 (nthJ l k).2.2.1, .int .i64 (nthJ l k).2.2.2.1, .int .i64 (nthJ l k).2.2.2.2] 34))
    clear hbad hdup hgood hb2 hall hb
    have ex : ∃ x, x = nthJ l k := ⟨_, rfl⟩
    obtain ⟨x, ex⟩ := ex
    rw [← ex] at c0 c1 c2 c3 c4 HX hblk
    clear ex
    obtain ⟨x0, x1, x2, x3, x4⟩ := x
    dsimp only at c0 c1 c2 c3 c4
    by_cases q0 : 0 ≤ x0
    case neg =>
      have EB := Lib.hid (HX.out.1 (fun g => q0 (by have g1 := g.1; have g2 := g.2; dsimp only [okJ] at *; omega)))
      go_wp2
      go_ret
      exact ⟨by rw [EB.out]; rfl, HX.out.2.2.2⟩
    by_cases q1 : x0 < m
    case neg =>
      have EB := Lib.hid (HX.out.1 (fun g => q1 (by have g1 := g.1; have g2 := g.2; dsimp only [okJ] at *; omega)))
      go_wp2
      go_ret
      exact ⟨by rw [EB.out]; rfl, HX.out.2.2.2⟩
    by_cases q2 : 0 ≤ x1
    case neg =>
      have EB := Lib.hid (HX.out.1 (fun g => q2 (by have g1 := g.1; have g2 := g.2; dsimp only [okJ] at *; omega)))
      go_wp2
      go_ret
      exact ⟨by rw [EB.out]; rfl, HX.out.2.2.2⟩
    by_cases q3 : x1 < m
    case neg =>
      have EB := Lib.hid (HX.out.1 (fun g => q3 (by have g1 := g.1; have g2 := g.2; dsimp only [okJ] at *; omega)))
      go_wp2
      go_ret
      exact ⟨by rw [EB.out]; rfl, HX.out.2.2.2⟩
    by_cases q4 : x0 ≠ x1
    case neg =>
      have EB := Lib.hid (HX.out.1 (fun g => q4 (by have g1 := g.1; have g2 := g.2; dsimp only [okJ] at *; omega)))
      obtain rfl : x0 = x1 := by omega
      clear q4
      go_wp2
      go_ret
      exact ⟨by rw [EB.out]; rfl, HX.out.2.2.2⟩
    have q4' : (x0 == x1) = false := by simpa using q4
    by_cases q5 : -2147483647 ≤ x2
    case neg =>
      have EB := Lib.hid (HX.out.1 (fun g => q5 (by have g1 := g.1; have g2 := g.2; dsimp only [okJ] at *; omega)))
      go_wp2
      go_ret
      exact ⟨by rw [EB.out]; rfl, HX.out.2.2.2⟩
    by_cases q6 : x2 ≤ 2147483647
    case neg =>
      have EB := Lib.hid (HX.out.1 (fun g => q6 (by have g1 := g.1; have g2 := g.2; dsimp only [okJ] at *; omega)))
      go_wp2
      go_ret
      exact ⟨by rw [EB.out]; rfl, HX.out.2.2.2⟩
    by_cases q7 : 1 ≤ x3
    case neg =>
      have EB := Lib.hid (HX.out.1 (fun g => q7 (by have g1 := g.1; have g2 := g.2; dsimp only [okJ] at *; omega)))
      go_wp2
      go_ret
      exact ⟨by rw [EB.out]; rfl, HX.out.2.2.2⟩
    by_cases q8 : x3 ≤ 2147483647
    case neg =>
      have EB := Lib.hid (HX.out.1 (fun g => q8 (by have g1 := g.1; have g2 := g.2; dsimp only [okJ] at *; omega)))
      go_wp2
      go_ret
      exact ⟨by rw [EB.out]; rfl, HX.out.2.2.2⟩
    by_cases q9 : -2147483648 ≤ x4
    case neg =>
      have EB := Lib.hid (HX.out.1 (fun g => q9 (by have g1 := g.1; have g2 := g.2; dsimp only [okJ] at *; omega)))
      go_wp2
      go_ret
      exact ⟨by rw [EB.out]; rfl, HX.out.2.2.2⟩
    by_cases q10 : x4 ≤ 2147483647
    case neg =>
      have EB := Lib.hid (HX.out.1 (fun g => q10 (by have g1 := g.1; have g2 := g.2; dsimp only [okJ] at *; omega)))
      go_wp2
      go_ret
      exact ⟨by rw [EB.out]; rfl, HX.out.2.2.2⟩
    have hok : okJ m (x0, x1, x2, x3, x4) := ⟨q4, ⟨q0, q1⟩, ⟨q2, q3⟩, ⟨q5, q6⟩, ⟨q7, q8⟩, ⟨q9, q10⟩⟩
    have HO := Lib.hid hok
    clear hok
    go_wp2
    go_loopw [7] (fun i ww => ∃ j : Nat, j ≤ k ∧ i = .int .i64 j ∧ (∀ i, i < j → (nthJ l i).2.1 ≠ x1) ∧ ww.heap[wr.heap.size]? = some (.cells #[.int .i64 x0, .int .i64 x1, .int .i64 x2, .int .i64 x3, .int .i64 x4] 34 (0, 0)) ∧ Below w.heap.size w ww) (fun i _ => k - (intOf i).toNat)
    case atStart => exact ⟨0, Nat.zero_le _, rfl, fun i hi => by omega, hblk.out, HX.out.2.2.2⟩
    case round =>
      obtain ⟨j, hj, rfl, hno, hbk, hb3⟩ := hrel
      clear c0 c1 c2 c3 c4
      by_cases hjk : j < k
      case neg =>
        obtain rfl : j = k := by omega
        have HG := Lib.hid (HX.out.2.2.1 HO.out hno)
        clear hno hbk
        go_wp2
        go_roundw
        case rel => exact ⟨j + 1, by omega, by go_num, HG.out, hb3⟩
        case measure => simp [intOf]; omega
      obtain ⟨d0, d1, d2, d3, d4⟩ := (HK.out.grown hb3).2.2 j (by omega)
      have e1 := blk_cell hbk 1
      simp at e1
      have i4 : (j : Int) < (k : Int) := by omega
      have i5 : (j : Int) < (n : Int) := by omega
      have uj : IntKind.i64.wrap ((j : Int) + 1) = (j : Int) + 1 := wrap_id (by omega)
      by_cases he : (nthJ l j).2.1 = x1
      · have EB := Lib.hid (HX.out.2.1 j hjk he)
        have HB3 := Lib.hid hb3
        rw [he] at d1
        clear hno hbk hb3 he
        go_wp2
        go_quiet (fail)
        go_wp2
        go_ret
        exact ⟨by rw [EB.out]; rfl, below_drewN HB3.out _⟩
      · have HS := Lib.hid (show ∀ i, i < j + 1 → (nthJ l i).2.1 ≠ x1 from fun i hi => by
          by_cases e : i = j
          · subst e; exact he
          · exact hno i (by omega))
        have HB3 := Lib.hid (show _ ∧ _ from ⟨hbk, hb3⟩)
        have hne : ((nthJ l j).2.1 == x1) = false := by simpa using he
        clear hno hbk hb3
        generalize (nthJ l j).2.1 = y at *
        go_wp2
        go_quiet (fail)
        go_wp2
        go_roundw
        case rel => exact ⟨j + 1, by omega, by go_num, HS.out, HB3.out.1, below_drewN HB3.out.2 _⟩
        case measure => simp [intOf]; omega
end Go.Proofs.Ythncfhfnboocmaa
