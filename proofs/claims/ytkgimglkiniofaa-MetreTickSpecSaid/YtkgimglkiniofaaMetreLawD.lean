/- The walk of MetreTickSpec (layer 10). -/
import Derived.Test.YtkgimglkiniofaaMetreRTick
namespace Go.Proofs.Ytkgimglkiniofaa
open Go.ChangeShapes Go.WideShapes Go.ChangeAt Go.RowKit

set_option maxHeartbeats 4000000 in
theorem metreTickSpec_walk (a : Option Addr) (b off len cap : Nat) (l : List Mt) (bar beat rest : Int) (w : World) (hM : Ms w a len b off l) (hn : len ≤ 9223372036854775807) (hb : 0 < len → ∃ c tb fr, w.heap[b]? = some (.cells c tb fr)) :
    Calls Try.prog 3 #[.slice a len cap, .int .i64 bar, .int .i64 beat, .int .i64 rest] w fun e w' => e = .returned (.bool true) ∧ Below w.heap.size w w' := by
  have hblk : ∀ W, Below w.heap.size w W → 0 < len → ∃ c tb fr, W.heap[b]? = some (.cells c tb fr) := fun W hW h => by
    obtain ⟨c, tb, fr, h1⟩ := hb h
    exact ⟨c, tb, fr, blk_below h1 hW (Array.getElem?_eq_some_iff.1 h1).1⟩
  have HB := Lib.hid hblk
  have HM := Lib.hid hM
  clear hblk hb hM
  generalize hck : chk l = ck
  have HCK := Lib.hid hck; clear hck
  go_enter Try.func3, Try.ntmps3
  go_wp2_with fail
  refine (sane_any w).mono ?_; rintro e w1 ⟨rfl, hB⟩
  by_cases hf : (len : Int) ≤ 100
  case neg =>
    have hf2 : (100 : Int) < (len : Int) := by omega
    go_wp2
    go_ret
    exact ⟨rfl, hB⟩
  have hf2 : ¬ (100 : Int) < (len : Int) := by omega
  go_wp2_with fail
  refine (tick_any a b off len cap l bar beat rest _ (HM.out.grown hB) hn (HB.out _ hB)).mono ?_; rintro e w2 ⟨hb, t, r, hT, rfl⟩
  replace hB := below_after hB hb hB.size
  clear hb
  have HT := Lib.hid hT; clear hT
  go_wp2_with fail
  refine (rtick_any a b off len cap l bar beat rest t r _ (HM.out.grown hB) hn HT.out).mono ?_; rintro e w3 ⟨rfl, hb⟩
  replace hB := below_after hB hb hB.size
  clear hb
  go_wp2_with fail
  refine (mcheck_any a len cap b off l _ (HM.out.grown hB) hn).mono ?_; rintro e w4 ⟨rfl, hb⟩; rw [HCK.out]
  replace hB := below_after hB hb hB.size
  clear hb
  go_wp2_with fail
  refine (rmcheck_any a len cap b off l _ (HM.out.grown hB) hn).mono ?_; rintro e w5 ⟨rfl, hb⟩; rw [HCK.out]
  replace hB := below_after hB hb hB.size
  clear hb
  go_wp2
  go_ret
  exact ⟨rfl, hB⟩
end Go.Proofs.Ytkgimglkiniofaa
