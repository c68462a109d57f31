/- The walk of MetrePlaceSpec (layer 10). -/
import Derived.Test.YtkgimglkiniofaaMetreBarsNo
import Derived.Test.YtkgimglkiniofaaMetreRPlace
namespace Go.Proofs.Ytkgimglkiniofaa
open Go.ChangeShapes Go.WideShapes Go.ChangeAt Go.RowKit

set_option maxHeartbeats 4000000 in
theorem metrePlaceSpec_walk (a : Option Addr) (b off len cap : Nat) (l : List Mt) (tick fr to : Int) (w : World) (hM : Ms w a len b off l) (hn : len ≤ 9223372036854775807) (hb : 0 < len → ∃ c tb fr, w.heap[b]? = some (.cells c tb fr)) :
    Calls Try.prog 4 #[.slice a len cap, .int .i64 tick, .int .i64 fr, .int .i64 to] w fun e w' => e = .returned (.bool true) ∧ Below w.heap.size w w' := by
  have hblk : ∀ W, Below w.heap.size w W → 0 < len → ∃ c tb fr, W.heap[b]? = some (.cells c tb fr) := fun W hW h => by
    obtain ⟨c, tb, fr, h1⟩ := hb h
    exact ⟨c, tb, fr, blk_below h1 hW (Array.getElem?_eq_some_iff.1 h1).1⟩
  have HB := Lib.hid hblk
  have HM := Lib.hid hM
  clear hblk hb hM
  go_enter Try.func4, Try.ntmps4
  go_wp2_with fail
  refine (sane_any w).mono ?_; rintro e w1 ⟨rfl, hB⟩
  by_cases hf : (len : Int) ≤ 100
  case neg =>
    have hf2 : (100 : Int) < (len : Int) := by omega
    go_wp2
    go_ret
    exact ⟨rfl, hB⟩
  have hf2 : ¬ (100 : Int) < (len : Int) := by omega
  go_wp2_with fail
  refine (place_any a b off len cap l tick _ (HM.out.grown hB) hn (HB.out _ hB)).mono ?_; rintro e w2 ⟨hb, B, bt, o, r, hT, rfl⟩
  replace hB := below_after hB hb hB.size
  clear hb
  have HT := Lib.hid hT; clear hT
  go_wp2_with fail
  refine (rplace_any a b off len cap l tick B bt o r _ (HM.out.grown hB) hn HT.out).mono ?_; rintro e w3 ⟨rfl, hb⟩
  replace hB := below_after hB hb hB.size
  clear hb
  go_wp2_with fail
  refine (bars_any a b off len cap l fr to _ (HM.out.grown hB) hn (HB.out _ hB)).mono ?_; rintro e w4 ⟨hb, v, q, A, hR, rfl, hI⟩
  replace hB := below_after hB hb hB.size
  clear hb
  have hA := barsRes_len hR
  have HR := Lib.hid hR; clear hR
  obtain ⟨v0, b0, c0, rfl, hR1, _, _⟩ := hI.row
  clear hI
  go_wp2_with fail
  refine (rbars_any a b off len cap l fr to q A _ (HM.out.grown hB) hn HR.out).mono ?_; rintro e w5 ⟨v2, rfl, hI2, hb⟩
  obtain ⟨v3, b3, c3, rfl, hR3, _, _⟩ := hI2.row
  clear hI2
  replace hR1 := hR1.below hb (Nat.le_refl _)
  replace hB := below_after hB hb hB.size
  clear hb
  go_wp2_with fail
  refine (same_any _ _ b0 b3 0 0 _ _ _ _ A A _ hR1 hR3 (by omega) (by omega) rfl).mono ?_; rintro e w6 ⟨rfl, hb⟩
  replace hB := below_after hB hb hB.size
  clear hb
  go_wp2
  go_ret
  exact ⟨rfl, hB⟩
end Go.Proofs.Ytkgimglkiniofaa
