/- The walk of TempoInsertSpec (layer 9). -/
import Derived.Test.YtcgndcapdodhlaaTemLawA
import Derived.Test.YtcgndcapdodhlaaTemRIns
namespace Go.Proofs.Ytcgndcapdodhlaa
open Go.ChangeShapes Go.WideShapes Go.ChangeAt Go.RowKit

set_option maxHeartbeats 4000000 in
theorem tempoInsertSpec_walk (a : Option Addr) (b off len cap : Nat) (l : List Tp) (t0 t1 t2 : Int) (t3 : Bool) (w : World) (hM : Ts w a len b off l) (hn : len ≤ 9223372036854775807) (hlc : len ≤ cap) (hcm : cap ≤ 9223372036854775807) (hnc : a = none → cap = 0) :
    Calls Try.prog 5 #[.slice a len cap, .agg #[.int .i64 t0, .int .i64 t1, .int .i64 t2, .bool t3]] w fun e w' => e = .returned (.bool true) ∧ Below w.heap.size w w' := by
  have HM := Lib.hid hM
  have hl := hM.1
  clear hM
  go_enter Try.func5, Try.ntmps5
  go_wp2_with fail
  refine (sane_any _).mono ?_; rintro e w1 ⟨rfl, hB0⟩
  have k0 := blk_below (blk_new w (.cells #[.int .i64 t0, .int .i64 t1, .int .i64 t2, .bool t3] 30)) hB0 (by simp)
  have hB := below_after ((Below.refl w.heap.size w).alloc (Nat.le_refl _) _) hB0 (by simp)
  clear hB0
  by_cases hf : (len : Int) ≤ 80
  case neg =>
    have hf2 : (80 : Int) < (len : Int) := by omega
    go_wp2
    go_ret
    exact ⟨rfl, hB⟩
  have hf2 : ¬ (80 : Int) < (len : Int) := by omega
  have d0 := blk_cell k0 0; have d1 := blk_cell k0 1; have d2 := blk_cell k0 2; have d3 := blk_cell k0 3
  simp at d0 d1 d2 d3
  have HK := Lib.hid (show _ ∧ _ from ⟨k0, hB⟩)
  clear k0 hB
  go_wp2_with fail
  refine (tinsert_any a b off len cap l t0 t1 t2 t3 _ (HM.out.grown HK.out.2) (by omega) hlc hcm hnc).mono ?_; rintro e w2 ⟨⟨A, R, hI, hX⟩, hb⟩
  have hB2 := below_after HK.out.2 hb HK.out.2.size
  have k2 := blk_below HK.out.1 hb (Array.getElem?_eq_some_iff.1 HK.out.1).1
  clear d0 d1 d2 d3 hb
  have d0 := blk_cell k2 0; have d1 := blk_cell k2 1; have d2 := blk_cell k2 2; have d3 := blk_cell k2 3
  simp at d0 d1 d2 d3
  have HK2 := Lib.hid (show _ ∧ _ ∧ _ from ⟨k2, hB2, hI⟩)
  clear k2 hB2 hI
  rcases hX with ⟨hno, rfl⟩ | ⟨hyes, v, rfl, hO⟩
  · have HN := Lib.hid hno
    clear hno
    go_wp2_with fail
    refine (rinsert_any a b off len cap l t0 t1 t2 t3 _ (HM.out.grown HK2.out.2.1) (by omega) hlc hnc).mono ?_; rintro e w3 ⟨⟨A', R', hI', hX'⟩, hb⟩
    obtain ⟨rfl, rfl⟩ := insAt_one HK2.out.2.2 hI'
    have hB3 := below_after HK2.out.2.1 hb HK2.out.2.1.size
    clear hb
    rcases hX' with ⟨_, rfl⟩ | ⟨h, _⟩
    · go_wp2_with fail
      refine (same_any none none 0 0 0 0 0 0 0 0 [] [] _ (Ts.zero _ _) (Ts.zero _ _) (by omega) (by omega) rfl).mono ?_; rintro e w4 ⟨rfl, hb⟩
      have hB4 := below_after hB3 hb hB3.size
      go_wp2
      go_ret
      exact ⟨rfl, hB4⟩
    · exact absurd h HN.out
  · have HN := Lib.hid (show _ ∧ _ from ⟨hyes, hO⟩)
    clear hyes hO
    go_wp2_with fail
    refine (rinsert_any a b off len cap l t0 t1 t2 t3 _ (HM.out.grown HK2.out.2.1) (by omega) hlc hnc).mono ?_; rintro e w3 ⟨⟨A', R', hI', hX'⟩, hb⟩
    obtain ⟨rfl, rfl⟩ := insAt_one HK2.out.2.2 hI'
    have hB3 := below_after HK2.out.2.1 hb HK2.out.2.1.size
    have hO3 := HN.out.2.below hb (Nat.le_refl _)
    clear hb
    rcases hX' with ⟨h, _⟩ | ⟨_, v', rfl, hO'⟩
    · exact absurd HN.out.1 h
    · have hlen := HN.out.1.2.1
      generalize insX l (t0, t1, t2, t3) A R = X at *
      obtain ⟨a5, b5, c5, rfl, hT5, _⟩ := hO3.ts
      obtain ⟨a6, b6, c6, rfl, hT6, _⟩ := hO'.ts
      have HT := Lib.hid (show _ ∧ _ from ⟨hT5, hT6⟩)
      clear hT5 hT6 hO3 hO'
      go_wp2_with fail
      refine (same_any a5 a6 b5 b6 0 0 _ _ _ _ X X _ HT.out.1 HT.out.2 (by omega) (by omega) rfl).mono ?_; rintro e w4 ⟨rfl, hb⟩
      have hB4 := below_after hB3 hb hB3.size
      go_wp2
      go_ret
      exact ⟨rfl, hB4⟩
end Go.Proofs.Ytcgndcapdodhlaa
