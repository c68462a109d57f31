/- Walks of laws of gestures (layer 12). -/
import Derived.Test.YtmblkmllamccnaaGesLawA
namespace Go.Proofs.Ytmblkmllamccnaa
open Go.ChangeShapes Go.WideShapes Go.ChangeAt Go.RowKit

theorem allG_app (v : Int) (x y : List Gt) (p : Int) : allG v (x ++ y) p = allG (allG v x p) y p := by unfold allG; rw [List.foldl_append]
theorem allG_split (v : Int) (l : List Gt) (k : Nat) (p : Int) : allG v l p = allG (allG v (l.take k) p) (l.drop k) p := by
  rw [← allG_app, List.take_append_drop]
def covers (l : List Gt) (p : Int) (j : Nat) : Prop := (nthG l j).m ≠ 3 ∧ (nthG l j).f ≤ p ∧ p < (nthG l j).u
theorem allG_cover {l : List Gt} {p : Int} {j : Nat} (hj : j < l.length) (h : covers l p j) (v v' : Int) : allG v l p = allG v' l p := by
  have key : ∀ u, allG u (l.take (j + 1)) p = valC (nthG l j).ks (min p ((nthG l j).t - 1)) := fun u => by
    rw [takeG_succ hj, allG_snoc]
    unfold made chg
    rw [if_pos h.2, if_neg h.1]
  rw [allG_split v l (j + 1), allG_split v' l (j + 1), key, key]
theorem allG_none {p : Int} : ∀ (l : List Gt) (v : Int), (∀ g ∈ l, ¬ (g.f ≤ p ∧ p < g.u)) → allG v l p = v := by
  intro l
  induction l with
  | nil => intro v _; rfl
  | cons g l ih =>
    intro v h
    show allG (made v g p) l p = v
    rw [made_no (h g (by simp))]
    exact ih v fun x hx => h x (by simp [hx])
theorem ges_take {l : List Gt} (h : Ges l) (k : Nat) : Ges (l.take k) := by
  refine ⟨Nat.le_trans (List.length_take_le' _ _) h.1, fun i hi => ?_⟩
  rw [List.length_take] at hi
  rw [nthG_take (by omega)]
  exact h.2 i (by omega)
theorem ges_drop {l : List Gt} (h : Ges l) (k : Nat) : Ges (l.drop k) := by
  have h1 := h.1
  refine ⟨by rw [List.length_drop]; omega, fun i hi => ?_⟩
  rw [List.length_drop] at hi
  rw [nthG_drop]
  exact h.2 (k + i) (by omega)
def CovR (l : List Gt) (p : Int) (k : Nat) (v : Value) : Prop := ∃ cb, v = .bool cb ∧ (cb = true → ∃ j, j < k ∧ covers l p j)

set_option maxRecDepth 100000 in
set_option maxHeartbeats 8000000 in
theorem gesturesCover_walk (va vb p : Int) (a : Option Addr) (b off n cap : Nat) (l : List Gt) (w : World) (hM : Gs w a n b off l) (hbM : 0 < n → ∃ c tb fr, w.heap[b]? = some (.cells c tb fr)) (hn : n ≤ 9223372036854775807) (hnc : a = none → cap = 0) (hlc : n ≤ cap) (a0 : (Lit.int .i64 va).wf = true) (b0 : (Lit.int .i64 vb).wf = true) (p1 : -9223372036854775808 ≤ p) (p2 : p ≤ 9223372036854775807) :
    Calls Try.prog 6 #[.int .i64 va, .int .i64 vb, .slice a n cap, .int .i64 p] w fun e w' => e = .returned (.bool true) ∧ Below w.heap.size w w' := by
  have hbb : 0 < n → b < w.heap.size := fun h0 => (hM.2.1 h0).2
  have HM := Lib.hid (show _ ∧ _ from ⟨hM, hbM⟩)
  have hl := hM.1
  have hbk : ∀ w', Below w.heap.size w w' → 0 < n → ∃ c tb fr, w'.heap[b]? = some (.cells c tb fr) := fun w' hb h0 => by
    obtain ⟨c, tb, fr, h1⟩ := HM.out.2 h0
    exact ⟨c, tb, fr, blk_below h1 hb (hbb h0)⟩
  have HBK := Lib.hid hbk
  clear hM hbM hbk
  go_enter Try.func6, Try.ntmps6
  go_wp2_with fail
  refine (sane_any _).mono ?_; rintro e w1 ⟨rfl, hB1⟩
  go_wp2_with fail
  refine (rgfew_any a b off n cap l _ (HM.out.1.grown hB1) hn).mono ?_; rintro e w' ⟨hF, rfl⟩
  rcases hF with rfl | ⟨rfl, hf70⟩
  · go_wp2
    go_ret
    exact ⟨rfl, hB1⟩
  have HB1 := Lib.hid hB1; clear hB1
  by_cases hch : Ges l
  case neg =>
    have hc := chkG_no hch
    clear hch
    go_wp2_with fail
    refine (rgcheck_any a b off n cap l _ (HM.out.1.grown HB1.out) hn).mono ?_; rintro e w2 ⟨rfl, hb⟩; rw [hc]
    have HB2 := Lib.hid (below_after HB1.out hb HB1.out.size); clear hb hc
    go_wp2
    go_ret
    exact ⟨rfl, HB2.out⟩
  have hc := chkG_yes hch
  have hn64 : n ≤ 64 := by rw [← hl]; exact hch.1
  have HC := Lib.hid hch
  clear hch
  go_wp2_with fail
  refine (rgcheck_any a b off n cap l _ (HM.out.1.grown HB1.out) hn).mono ?_; rintro e w2 ⟨rfl, hb⟩; rw [hc]
  have HB2 := Lib.hid (below_after HB1.out hb HB1.out.size); clear hb hc
  go_wp2
  go_loopw [9, 28] (fun c i wr => ∃ k : Nat, k ≤ n ∧ i = .int .i64 k ∧ CovR l p k c ∧ Below w.heap.size w wr) (fun _ i _ => n - (intOf i).toNat)
  case atStart => exact ⟨0, Nat.zero_le _, rfl, ⟨_, rfl, fun h => by cases h⟩, HB2.out⟩
  case round =>
    obtain ⟨k, hk, rfl, ⟨cb, rfl, hcb⟩, hB⟩ := hrel
    by_cases hlt : k < n
    case neg =>
      obtain rfl : k = n := by omega
      have HB3 := Lib.hid hB; clear hB
      have hcov : cb = true → allG va l p = allG vb l p := fun h => by
        obtain ⟨j, hj, hc⟩ := hcb h
        exact allG_cover (by omega) hc va vb
      have HCV := Lib.hid hcov
      clear hcb hcov
      go_wp2_with fail
      refine (gvalue_any va p a b off k cap l _ (HM.out.1.grown HB3.out) (HBK.out _ HB3.out) hn a0 p1 p2).mono ?_; rintro e w4 ⟨rfl, hb⟩
      rw [gvalV_yes HC.out, chkG_yes HC.out]
      have HB4 := Lib.hid (below_after HB3.out hb HB3.out.size); clear hb
      go_wp2_with fail
      refine (gvalue_any vb p a b off k cap l _ (HM.out.1.grown HB4.out) (HBK.out _ HB4.out) hn b0 p1 p2).mono ?_; rintro e w5 ⟨rfl, hb⟩
      rw [gvalV_yes HC.out, chkG_yes HC.out]
      have HB5 := Lib.hid (below_after HB4.out hb HB4.out.size); clear hb
      generalize allG va l p = x at *
      generalize allG vb l p = y at *
      cases cb with
      | true =>
        obtain rfl : x = y := HCV.out rfl
        go_wp2
        go_ret
        exact ⟨by simp, HB5.out⟩
      | false =>
        go_wp2
        go_ret
        exact ⟨by simp, HB5.out⟩
    obtain ⟨rfl, hbw⟩ := HM.out.1.2.1 (by omega)
    obtain ⟨⟨c0, c1, c2, c3, c4⟩, _⟩ := (HM.out.1.grown hB).2.2 k hlt
    have hz := hB.size
    have hcs : covers l p k ↔ ((nthG l k).m ≠ 3 ∧ (nthG l k).f ≤ p ∧ p < (nthG l k).u) := Iff.rfl
    generalize nthG l k = g at *
    have HB3 := Lib.hid (hB.alloc hz (.cells #[.int .i64 g.m, .int .i64 g.f, .int .i64 g.t, .int .i64 g.u, .slice g.ka g.kn g.kc] 38)); clear hB
    have HCB := Lib.hid (show _ ∧ _ from ⟨hcb, hcs⟩)
    clear hcb hcs
    cases cb with
    | true =>
      go_wp2
      go_roundw
      case rel => exact ⟨k + 1, by omega, by go_num, ⟨_, rfl, fun _ => by obtain ⟨j, hj, h⟩ := HCB.out.1 rfl; exact ⟨j, by omega, h⟩⟩, HB3.out⟩
      case measure => simp [intOf]; omega
    | false =>
      by_cases h1 : g.m = 3
      · go_wp2
        go_roundw
        case rel => exact ⟨k + 1, by omega, by go_num, ⟨_, rfl, fun h => by cases h⟩, by have h := HB3.out; rw [h1] at h; exact h⟩
        case measure => simp [intOf]; omega
      by_cases h2 : g.f ≤ p
      case neg =>
        go_wp2
        go_roundw
        case rel => exact ⟨k + 1, by omega, by go_num, ⟨_, rfl, fun h => by cases h⟩, HB3.out⟩
        case measure => simp [intOf]; omega
      by_cases h3 : p < g.u
      · have HY := Lib.hid (HCB.out.2.2 ⟨h1, h2, h3⟩)
        go_wp2
        go_roundw
        case rel => exact ⟨k + 1, by omega, by go_num, ⟨_, rfl, fun _ => ⟨k, by omega, HY.out⟩⟩, HB3.out⟩
        case measure => simp [intOf]; omega
      · go_wp2
        go_roundw
        case rel => exact ⟨k + 1, by omega, by go_num, ⟨_, rfl, fun h => by cases h⟩, HB3.out⟩
        case measure => simp [intOf]; omega
end Go.Proofs.Ytmblkmllamccnaa
