/- The walks of LinksCheckSpec, LinksOrderSpec and LinksValuesSpec (layer 13). -/
import Derived.Test.YthncfhfnboocmaaLnkSane
import Derived.Test.YthncfhfnboocmaaLnkLawM
namespace Go.Proofs.Ythncfhfnboocmaa
open Go.ChangeShapes Go.WideShapes Go.ChangeAt Go.RowKit

set_option maxHeartbeats 4000000 in
theorem linksCheckSpec_walk (m : Int) (a : Option Addr) (b off n cap : Nat) (l : List Jt) (w : World) (hM : Js w a n b off l) (hn : n ≤ 9223372036854775807) (hwl : ∀ i, i < n → wfJ (nthJ l i)) :
    Calls Try.prog 3 #[.int .i64 m, .slice a n cap] w fun e w' => e = .returned (.bool true) ∧ Below w.heap.size w w' := by
  have HM := Lib.hid (show _ ∧ _ from ⟨hM, hwl⟩)
  clear hM hwl
  go_enter Try.func3, Try.ntmps3
  go_wp2_with fail
  refine (sane_any w).mono ?_; rintro e w1 ⟨rfl, hB⟩
  by_cases hN : 20 < (n : Int) ∧ (n : Int) ≤ 256
  · have q1 := hN.1; have q2 := hN.2
    go_wp2
    go_ret
    exact ⟨rfl, hB⟩
  have hq : ¬ 20 < (n : Int) ∨ (20 < (n : Int) ∧ ¬ (n : Int) ≤ 256) := by omega
  clear hN
  rcases hq with q1 | ⟨q1, q2⟩
  all_goals
    go_wp2_with fail
    refine (lkCheck m a b off n cap l _ (HM.out.1.grown hB) hn HM.out.2).mono ?_; rintro e w2 ⟨rfl, hb⟩
    replace hB := below_after hB hb hB.size
    clear hb
    go_wp2_with fail
    refine (rCheck m a b off n cap l _ (HM.out.1.grown hB) hn).mono ?_; rintro e w3 ⟨rfl, hb⟩
    replace hB := below_after hB hb hB.size
    clear hb
    generalize chkL m l = x
    go_wp2
    go_ret
    exact ⟨by simp, hB⟩

set_option maxHeartbeats 4000000 in
theorem linksOrderSpec_walk (m : Int) (a : Option Addr) (b off n cap : Nat) (l : List Jt) (w : World) (hM : Js w a n b off l) (hn : n ≤ 9223372036854775807) (hwl : ∀ i, i < n → wfJ (nthJ l i)) :
    Calls Try.prog 4 #[.int .i64 m, .slice a n cap] w fun e w' => e = .returned (.bool true) ∧ Below w.heap.size w w' := by
  have HM := Lib.hid (show _ ∧ _ from ⟨hM, hwl⟩)
  clear hM hwl
  go_enter Try.func4, Try.ntmps4
  go_wp2_with fail
  refine (sane_any w).mono ?_; rintro e w1 ⟨rfl, hB⟩
  by_cases q1 : 20 < (n : Int)
  · go_wp2
    go_ret
    exact ⟨rfl, hB⟩
  go_wp2_with fail
  refine (lkOrder m a b off n cap l _ (HM.out.1.grown hB) hn HM.out.2).mono ?_; rintro e w2 ⟨v2, rfl, hO2, hb⟩
  replace hB := below_after hB hb hB.size
  clear hb
  obtain ⟨a2, b2, c2, rfl, R2, -, -⟩ := hO2.row
  clear hO2
  go_wp2_with fail
  refine (rOrder m a b off n cap l _ (HM.out.1.grown hB) hn).mono ?_; rintro e w3 ⟨v3, rfl, hO3, hb⟩
  replace hB := below_after hB hb hB.size
  replace R2 := R2.below hb (Nat.le_refl _)
  clear hb
  obtain ⟨a3, b3, c3, rfl, R3, -, -⟩ := hO3.row
  clear hO3
  have hlen : (orderL m l).length ≤ 16777216 := orderL_small m l
  have HR := Lib.hid (show _ ∧ _ ∧ _ from ⟨R2, R3, hlen⟩)
  clear R2 R3 hlen
  generalize hk : (orderL m l).length = k at *
  generalize chkL m l = x
  have HK := Lib.hid hk; clear hk
  go_wp2_with fail
  refine (same_any a2 a3 b2 b3 0 0 k k c2 c3 _ _ _ HR.out.1 HR.out.2.1 HR.out.2.2 rfl).mono ?_; rintro e w4 ⟨rfl, hb⟩
  replace hB := below_after hB hb hB.size
  clear hb
  go_wp2
  go_ret
  exact ⟨by simp, hB⟩

set_option maxHeartbeats 4000000 in
theorem linksValuesSpec_walk (a : Option Addr) (b off n cap : Nat) (l : List Jt) (sa : Option Addr) (sb soff sn scap : Nat) (vs : List Int) (w : World) (hM : Js w a n b off l) (hn : n ≤ 9223372036854775807) (hwl : ∀ i, i < n → wfJ (nthJ l i)) (hS : Row w sa sb soff sn vs) (hsn : sn ≤ 9223372036854775807) :
    Calls Try.prog 5 #[.slice a n cap, .slice sa sn scap] w fun e w' => e = .returned (.bool true) ∧ Below w.heap.size w w' := by
  have HM := Lib.hid (show _ ∧ _ ∧ _ from ⟨hM, hwl, hS⟩)
  clear hM hwl hS
  go_enter Try.func5, Try.ntmps5
  go_wp2_with fail
  refine (sane_any w).mono ?_; rintro e w1 ⟨rfl, hB⟩
  by_cases q1 : 20 < (n : Int)
  · go_wp2
    go_ret
    exact ⟨rfl, hB⟩
  by_cases q2 : 30 < (sn : Int)
  · go_wp2
    go_ret
    exact ⟨rfl, hB⟩
  go_wp2_with fail
  refine (lkValues a sa b off n cap sb soff sn scap l vs _ (HM.out.1.grown hB) hn HM.out.2.1 (HM.out.2.2.below hB (Nat.le_refl _)) hsn).mono ?_; rintro e w2 ⟨v2, rfl, hO2, hb⟩
  replace hB := below_after hB hb hB.size
  clear hb
  obtain ⟨a2, b2, c2, rfl, R2, -, -⟩ := hO2.row
  clear hO2
  go_wp2_with fail
  refine (rValues a sa b off n cap sb soff sn scap l vs _ (HM.out.1.grown hB) hn (HM.out.2.2.below hB (Nat.le_refl _)) hsn).mono ?_; rintro e w3 ⟨v3, rfl, hO3, hb⟩
  replace hB := below_after hB hb hB.size
  replace R2 := R2.below hb (Nat.le_refl _)
  clear hb
  obtain ⟨a3, b3, c3, rfl, R3, -, -⟩ := hO3.row
  clear hO3
  have hlen : (valL l vs).length ≤ 16777216 := by
    have := valL_small l vs; rw [HM.out.2.2.len] at this; omega
  have HR := Lib.hid (show _ ∧ _ ∧ _ from ⟨R2, R3, hlen⟩)
  clear R2 R3 hlen
  generalize hk : (valL l vs).length = k at *
  generalize chkL (sn : Int) l = x
  have HK := Lib.hid hk; clear hk
  go_wp2_with fail
  refine (same_any a2 a3 b2 b3 0 0 k k c2 c3 _ _ _ HR.out.1 HR.out.2.1 HR.out.2.2 rfl).mono ?_; rintro e w4 ⟨rfl, hb⟩
  replace hB := below_after hB hb hB.size
  clear hb
  go_wp2
  go_ret
  exact ⟨by simp, hB⟩
end Go.Proofs.Ythncfhfnboocmaa
