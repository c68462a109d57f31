/- Resolve, whole, and the examples of layer 11. -/
import Derived.Test.YtafffmcmdhbghaaCrvResIn
import Derived.Test.YtafffmcmdhbghaaCrvRVal
namespace Go.Proofs.Ytafffmcmdhbghaa
open Go.ChangeShapes Go.WideShapes Go.ChangeAt Go.RowKit

theorem resolve_any (ma : Option Addr) (mb moff mn mcap : Nat) (m : List Tp) (a : Option Addr) (b off n cap : Nat) (l : List Kt) (w : World) (hT : Ts w ma mn mb moff m) (hmn : mn ≤ 9223372036854775807) (hmb : 0 < mn → ∃ c tb fr, w.heap[mb]? = some (.cells c tb fr)) (hK : Ks w a n b off l) (hn : n ≤ 9223372036854775807) (hnc : a = none → cap = 0) :
    Calls Try.prog 20 #[.slice ma mn mcap, .slice a n cap] w fun e w' => ResR m l w e w' ∧ Below w.heap.size w w' := by
  by_cases h : Map m ∧ Lane 16777216 l ∧ inPos m l l.length
  · exact callsIn_wide.1 (resolve_in ma mb moff mn mcap m a b off n cap l w hT hmn hmb hK hn hnc h.1 h.2.1 h.2.2)
  · exact resolve_no ma mb moff mn mcap m a b off n cap l w hT hmn hmb hK hn hnc h

theorem Row.lit (w : World) (cs : Array Value) (l : List Int) (n : Nat) (hn : l.length = n) (hcs : cs.toList = l.map (Value.int .i64)) : Row (w.alloc (.cells cs 3)) (some ⟨w.heap.size, 0, none⟩) w.heap.size 0 n l :=
  ⟨hn, fun _ => rfl, fun _ => by simp, fun i hi => by
    rw [cell_of_row _ w.heap.size _ cs 3 (0, 0) (heap_alloc_new w (.cells cs 3))]
    have : cs[0 + i]? = cs.toList[i]? := by rw [Nat.zero_add]; exact (Array.getElem?_toList).symm
    rw [this, hcs]
    simp [List.getD_eq_getElem?_getD, show i < l.length by omega]⟩
theorem map_one {p : Tp} (h0 : p.1 = 0) (h1 : p.2.2.2 = false) (h2 : okT p) : Map [p] := ⟨by simp, by simp, h0, h1, fun i hi => by
  obtain rfl : i = 0 := by simp at hi; omega
  exact ⟨h2, fun h => absurd h (by omega)⟩⟩
theorem Ts.lit (w : World) (cs : Array Value) (l : List Tp) (n : Nat) (hn : l.length = n) (hcs : ∀ i, i < n → cs[i * 4]? = some (.int .i64 (nthT l i).1) ∧ cs[i * 4 + 1]? = some (.int .i64 (nthT l i).2.1) ∧ cs[i * 4 + 2]? = some (.int .i64 (nthT l i).2.2.1) ∧ cs[i * 4 + 3]? = some (.bool (nthT l i).2.2.2)) :
    Ts (w.alloc (.cells cs 49)) (some ⟨w.heap.size, 0, none⟩) n w.heap.size 0 l :=
  ⟨hn, fun _ => ⟨rfl, by simp⟩, fun i hi => by
    obtain ⟨h0, h1, h2, h3⟩ := hcs i hi
    have hc := fun j => cell_of_row _ w.heap.size j cs 49 (0, 0) (heap_alloc_new w (.cells cs 49))
    simp only [Nat.zero_add]
    exact ⟨(hc _).trans h0, (hc _).trans h1, (hc _).trans h2, (hc _).trans h3⟩⟩
theorem noBlk (W : World) (b : Nat) : 0 < 0 → ∃ c tb fr, W.heap[b]? = some (.cells c tb fr) := fun h => absurd h (by omega)
theorem lane_of {most : Int} {l : List Kt} (h0 : l.length ≤ 1024) (h : ∀ i, i < l.length → okK most (nthK l i) ∧ (0 < i → (nthK l (i - 1)).1 < (nthK l i).1)) : Lane most l := ⟨h0, h⟩
theorem curve_of {l : List Kt} (h : Lane 1099511627776 l) (h2 : ∀ i, i < l.length - 1 → (nthK l i).2.2.1 ≠ 1 → (nthK l (i + 1)).1 - (nthK l i).1 ≤ 16777216) : Curve l := ⟨h, fun i hi => h2 i (by omega)⟩
instance (most : Int) (m : Kt) : Decidable (okK most m) := by unfold okK; infer_instance
theorem vals_get {l : List Kt} {f : Int} {n : Nat} {w w' : World} {e : Ending} {r : List Int} (h : ValsR l f n w e w') (hc : Curve l) (hf : -1099511627776 ≤ f ∧ f ≤ 1099511627776) (hn : n ≤ 65536) (hr : vals l f n = r) : ∃ v, e = .returned (.tuple #[v, .int .i64 0]) ∧ Ints w' w.heap.size v r := by
  rcases h with ⟨h, _⟩ | ⟨_, _, _, n', hn', _, h⟩
  · exact absurd (valsE_ok hc ⟨hf, by omega⟩ (by omega)) h
  · obtain rfl : n = n' := by omega
    subst hr; exact h
theorem vals_bad {l : List Kt} {f N x : Int} {w w' : World} {e : Ending} (h : ValsR l f N w e w') (hx : valsE l f N = x) (hx0 : x ≠ 0) : e = .returned (.tuple #[.slice none 0 0, .int .i64 x]) := by
  subst hx
  rcases h with ⟨_, h⟩ | ⟨h, _⟩
  · exact h
  · exact absurd h hx0
theorem res_get {m : List Tp} {l r : List Kt} {w w' : World} {e : Ending} (h : ResR m l w e w') (hr : resE m l = 0) (hs : stays (mvL m l) = r) : ∃ v, e = .returned (.tuple #[v, .int .i64 0]) ∧ KsO w' w.heap.size v r := by
  subst hs
  rcases h with ⟨h, _⟩ | ⟨_, _, h⟩
  · exact absurd hr h
  · exact h
def k1 : List Kt := [(0, 0, 2, 0, 0), (3, 100, 1, 0, 0)]
def k2 : List Kt := [(5, 7, 2, 0, 0)]
def k4 : List Kt := [(0, 1, 1, 0, 0), (4, 9, 1, 0, 0)]
def k5 : List Kt := [(0, 0, 3, 1, 3), (4, 100, 1, 0, 0)]
def k6 : List Kt := [(0, 0, 2, 0, 0), (2, -1, 1, 0, 0)]
def k8 : List Kt := [(0, 1, 1, 0, 0), (1, 2, 1, 0, 0), (2, 3, 1, 0, 0)]
def k9 : List Kt := [(0, 2, 1, 0, 0), (1, 3, 1, 0, 0)]
def kz : List Kt := [(0, 0, 0, 0, 0)]
def k0 : List Kt := []
theorem ck1 : Curve k1 := curve_of (lane_of (by decide) (by decide +kernel)) (by decide +kernel)
theorem ck2 : Curve k2 := curve_of (lane_of (by decide) (by decide +kernel)) (by decide +kernel)
theorem ck4 : Curve k4 := curve_of (lane_of (by decide) (by decide +kernel)) (by decide +kernel)
theorem ck5 : Curve k5 := curve_of (lane_of (by decide) (by decide +kernel)) (by decide +kernel)
theorem ck6 : Curve k6 := curve_of (lane_of (by decide) (by decide +kernel)) (by decide +kernel)
theorem ck8 : Curve k8 := curve_of (lane_of (by decide) (by decide +kernel)) (by decide +kernel)
theorem ck9 : Curve k9 := curve_of (lane_of (by decide) (by decide +kernel)) (by decide +kernel)
theorem ck0 : Curve k0 := curve_of (lane_of (by decide) (by decide +kernel)) (by decide +kernel)
theorem ckz : ¬ Curve kz := fun h => absurd (h.1.2 0 (by decide)).1 (by decide +kernel)
def mT : List Tp := [(0, 1, 2, false)]
theorem mmT : Map mT := map_one rfl rfl ⟨by decide, by decide, by decide, by decide, by decide, by decide⟩
theorem lk8 : Lane 16777216 k8 := lane_of (by decide) (by decide +kernel)
theorem rk8 : stays (mvL mT k8) = k9 := by decide +kernel
theorem ek8 : resE mT k8 = 0 := by
  rw [resE_ok mmT lk8 (by intro i hi; have : k8.length = 3 := rfl; rcases (show i = 0 ∨ i = 1 ∨ i = 2 by omega) with rfl | rfl | rfl <;> decide +kernel), rk8]
  exact chkC_yes ck9
theorem x1 : vals k1 (-1) 6 = [0, 0, 33, 66, 100, 100] := by decide +kernel
theorem x2 : valV k2 4 = 7 := (valV_yes ck2 4).trans (by decide +kernel)
theorem x3 : valV k2 6 = 7 := (valV_yes ck2 6).trans (by decide +kernel)
theorem x4 : vals k4 3 2 = [1, 9] := by decide +kernel
theorem x5 : valV k5 2 = 75 := (valV_yes ck5 2).trans (by decide +kernel)
theorem x6 : valV k6 1 = -1 := (valV_yes ck6 1).trans (by decide +kernel)
theorem x7 : valV k0 9 = 0 := (valV_yes ck0 9).trans (by decide +kernel)
theorem x9 : valsE k0 0 (-1) = 1 := valsE_arg ck0 (by omega)
theorem xa : valsE k0 0 65537 = 2 := valsE_lim ck0 (by omega) (by omega)
theorem k0_ks (w : World) : Ks w none 0 0 0 k0 := Ks.zero w _

set_option maxRecDepth 100000 in
set_option maxHeartbeats 8000000 in
theorem sane_any (w : World) :
    Calls Try.prog 11 #[] w fun e w' => e = .returned (.bool true) ∧ Below w.heap.size w w' := by
  go_enter Try.func11, Try.ntmps11
  have hB := Below.refl w.heap.size w
  have M := Ks.lit w #[.int .i64 0, .int .i64 0, .int .i64 2, .int .i64 0, .int .i64 0, .int .i64 3, .int .i64 100, .int .i64 1, .int .i64 0, .int .i64 0] k1 2 rfl (fun i hi => by rcases (show i = 0 ∨ i = 1 by omega) with rfl | rfl <;> exact ⟨rfl, rfl, rfl, rfl, rfl⟩)
  replace hB := hB.alloc hB.size (.cells #[.int .i64 0, .int .i64 0, .int .i64 2, .int .i64 0, .int .i64 0, .int .i64 3, .int .i64 100, .int .i64 1, .int .i64 0, .int .i64 0] 43)
  go_wp2_with fail
  refine (cvalues_any (some ⟨w.heap.size, 0, none⟩) w.heap.size 0 2 2 k1 (-1) 6 _ M (by omega) (fun h => by cases h) (by omega)).mono ?_; rintro e w1 ⟨hR, hb⟩
  obtain ⟨vR1, rfl, hO⟩ := vals_get (n := 6) hR ck1 (by omega) (by omega) x1
  obtain ⟨aR1, bR1, qR1, rfl, R1, -, -⟩ := hO.row
  clear hR hO
  replace hB := below_after hB hb hB.size
  clear hb
  clear M
  have M := Ks.lit w1 #[.int .i64 5, .int .i64 7, .int .i64 2, .int .i64 0, .int .i64 0] k2 1 rfl (fun i hi => by rcases (show i = 0 by omega) with rfl <;> exact ⟨rfl, rfl, rfl, rfl, rfl⟩)
  replace R1 := R1.below ((Below.refl _ _).alloc (Nat.le_refl _) (.cells #[.int .i64 5, .int .i64 7, .int .i64 2, .int .i64 0, .int .i64 0] 43)) (Nat.le_refl _)
  replace hB := hB.alloc hB.size (.cells #[.int .i64 5, .int .i64 7, .int .i64 2, .int .i64 0, .int .i64 0] 43)
  go_wp2_with fail
  refine (cvalue_any (some ⟨w1.heap.size, 0, none⟩) w1.heap.size 0 1 1 k2 (4) _ M (by omega) (fun h => by cases h) (by omega)).mono ?_; rintro e w2 ⟨rfl, hb⟩; rw [x2, chkC_yes ck2]
  replace R1 := R1.below hb (Nat.le_refl _)
  replace hB := below_after hB hb hB.size
  clear hb
  clear M
  have M := Ks.lit w2 #[.int .i64 5, .int .i64 7, .int .i64 2, .int .i64 0, .int .i64 0] k2 1 rfl (fun i hi => by rcases (show i = 0 by omega) with rfl <;> exact ⟨rfl, rfl, rfl, rfl, rfl⟩)
  replace R1 := R1.below ((Below.refl _ _).alloc (Nat.le_refl _) (.cells #[.int .i64 5, .int .i64 7, .int .i64 2, .int .i64 0, .int .i64 0] 43)) (Nat.le_refl _)
  replace hB := hB.alloc hB.size (.cells #[.int .i64 5, .int .i64 7, .int .i64 2, .int .i64 0, .int .i64 0] 43)
  go_wp2_with fail
  refine (cvalue_any (some ⟨w2.heap.size, 0, none⟩) w2.heap.size 0 1 1 k2 (6) _ M (by omega) (fun h => by cases h) (by omega)).mono ?_; rintro e w3 ⟨rfl, hb⟩; rw [x3, chkC_yes ck2]
  replace R1 := R1.below hb (Nat.le_refl _)
  replace hB := below_after hB hb hB.size
  clear hb
  clear M
  have M := Ks.lit w3 #[.int .i64 0, .int .i64 1, .int .i64 1, .int .i64 0, .int .i64 0, .int .i64 4, .int .i64 9, .int .i64 1, .int .i64 0, .int .i64 0] k4 2 rfl (fun i hi => by rcases (show i = 0 ∨ i = 1 by omega) with rfl | rfl <;> exact ⟨rfl, rfl, rfl, rfl, rfl⟩)
  replace R1 := R1.below ((Below.refl _ _).alloc (Nat.le_refl _) (.cells #[.int .i64 0, .int .i64 1, .int .i64 1, .int .i64 0, .int .i64 0, .int .i64 4, .int .i64 9, .int .i64 1, .int .i64 0, .int .i64 0] 43)) (Nat.le_refl _)
  replace hB := hB.alloc hB.size (.cells #[.int .i64 0, .int .i64 1, .int .i64 1, .int .i64 0, .int .i64 0, .int .i64 4, .int .i64 9, .int .i64 1, .int .i64 0, .int .i64 0] 43)
  go_wp2_with fail
  refine (cvalues_any (some ⟨w3.heap.size, 0, none⟩) w3.heap.size 0 2 2 k4 (3) 2 _ M (by omega) (fun h => by cases h) (by omega)).mono ?_; rintro e w4 ⟨hR, hb⟩
  obtain ⟨vR2, rfl, hO⟩ := vals_get (n := 2) hR ck4 (by omega) (by omega) x4
  obtain ⟨aR2, bR2, qR2, rfl, R2, -, -⟩ := hO.row
  clear hR hO
  replace R1 := R1.below hb (Nat.le_refl _)
  replace hB := below_after hB hb hB.size
  clear hb
  clear M
  have M := Ks.lit w4 #[.int .i64 0, .int .i64 0, .int .i64 3, .int .i64 1, .int .i64 3, .int .i64 4, .int .i64 100, .int .i64 1, .int .i64 0, .int .i64 0] k5 2 rfl (fun i hi => by rcases (show i = 0 ∨ i = 1 by omega) with rfl | rfl <;> exact ⟨rfl, rfl, rfl, rfl, rfl⟩)
  replace R1 := R1.below ((Below.refl _ _).alloc (Nat.le_refl _) (.cells #[.int .i64 0, .int .i64 0, .int .i64 3, .int .i64 1, .int .i64 3, .int .i64 4, .int .i64 100, .int .i64 1, .int .i64 0, .int .i64 0] 43)) (Nat.le_refl _)
  replace R2 := R2.below ((Below.refl _ _).alloc (Nat.le_refl _) (.cells #[.int .i64 0, .int .i64 0, .int .i64 3, .int .i64 1, .int .i64 3, .int .i64 4, .int .i64 100, .int .i64 1, .int .i64 0, .int .i64 0] 43)) (Nat.le_refl _)
  replace hB := hB.alloc hB.size (.cells #[.int .i64 0, .int .i64 0, .int .i64 3, .int .i64 1, .int .i64 3, .int .i64 4, .int .i64 100, .int .i64 1, .int .i64 0, .int .i64 0] 43)
  go_wp2_with fail
  refine (cvalue_any (some ⟨w4.heap.size, 0, none⟩) w4.heap.size 0 2 2 k5 (2) _ M (by omega) (fun h => by cases h) (by omega)).mono ?_; rintro e w5 ⟨rfl, hb⟩; rw [x5, chkC_yes ck5]
  replace R1 := R1.below hb (Nat.le_refl _)
  replace R2 := R2.below hb (Nat.le_refl _)
  replace hB := below_after hB hb hB.size
  clear hb
  clear M
  have M := Ks.lit w5 #[.int .i64 0, .int .i64 0, .int .i64 2, .int .i64 0, .int .i64 0, .int .i64 2, .int .i64 (-1), .int .i64 1, .int .i64 0, .int .i64 0] k6 2 rfl (fun i hi => by rcases (show i = 0 ∨ i = 1 by omega) with rfl | rfl <;> exact ⟨rfl, rfl, rfl, rfl, rfl⟩)
  replace R1 := R1.below ((Below.refl _ _).alloc (Nat.le_refl _) (.cells #[.int .i64 0, .int .i64 0, .int .i64 2, .int .i64 0, .int .i64 0, .int .i64 2, .int .i64 (-1), .int .i64 1, .int .i64 0, .int .i64 0] 43)) (Nat.le_refl _)
  replace R2 := R2.below ((Below.refl _ _).alloc (Nat.le_refl _) (.cells #[.int .i64 0, .int .i64 0, .int .i64 2, .int .i64 0, .int .i64 0, .int .i64 2, .int .i64 (-1), .int .i64 1, .int .i64 0, .int .i64 0] 43)) (Nat.le_refl _)
  replace hB := hB.alloc hB.size (.cells #[.int .i64 0, .int .i64 0, .int .i64 2, .int .i64 0, .int .i64 0, .int .i64 2, .int .i64 (-1), .int .i64 1, .int .i64 0, .int .i64 0] 43)
  go_wp2_with fail
  refine (cvalue_any (some ⟨w5.heap.size, 0, none⟩) w5.heap.size 0 2 2 k6 (1) _ M (by omega) (fun h => by cases h) (by omega)).mono ?_; rintro e w6 ⟨rfl, hb⟩; rw [x6, chkC_yes ck6]
  replace R1 := R1.below hb (Nat.le_refl _)
  replace R2 := R2.below hb (Nat.le_refl _)
  replace hB := below_after hB hb hB.size
  clear hb
  clear M
  go_wp2_with fail
  refine (cvalue_any none 0 0 0 0 k0 (9) _ (k0_ks _) (by omega) (fun _ => rfl) (by omega)).mono ?_; rintro e w7 ⟨rfl, hb⟩; rw [x7, chkC_yes ck0]
  replace R1 := R1.below hb (Nat.le_refl _)
  replace R2 := R2.below hb (Nat.le_refl _)
  replace hB := below_after hB hb hB.size
  clear hb
  have T := Ts.lit w7 #[.int .i64 0, .int .i64 1, .int .i64 2, .bool false] mT 1 rfl (fun i hi => by rcases (show i = 0 by omega) with rfl; exact ⟨rfl, rfl, rfl, rfl⟩)
  have nT := blk_new w7 (.cells #[.int .i64 0, .int .i64 1, .int .i64 2, .bool false] 49)
  replace R1 := R1.below ((Below.refl _ _).alloc (Nat.le_refl _) (.cells #[.int .i64 0, .int .i64 1, .int .i64 2, .bool false] 49)) (Nat.le_refl _)
  replace R2 := R2.below ((Below.refl _ _).alloc (Nat.le_refl _) (.cells #[.int .i64 0, .int .i64 1, .int .i64 2, .bool false] 49)) (Nat.le_refl _)
  replace hB := hB.alloc hB.size (.cells #[.int .i64 0, .int .i64 1, .int .i64 2, .bool false] 49)
  have M := Ks.lit (w7.alloc (.cells #[.int .i64 0, .int .i64 1, .int .i64 2, .bool false] 49)) #[.int .i64 0, .int .i64 1, .int .i64 1, .int .i64 0, .int .i64 0, .int .i64 1, .int .i64 2, .int .i64 1, .int .i64 0, .int .i64 0, .int .i64 2, .int .i64 3, .int .i64 1, .int .i64 0, .int .i64 0] k8 3 rfl (fun i hi => by rcases (show i = 0 ∨ i = 1 ∨ i = 2 by omega) with rfl | rfl | rfl <;> exact ⟨rfl, rfl, rfl, rfl, rfl⟩)
  replace T := T.grown ((Below.refl _ _).alloc (Nat.le_refl _) (.cells #[.int .i64 0, .int .i64 1, .int .i64 1, .int .i64 0, .int .i64 0, .int .i64 1, .int .i64 2, .int .i64 1, .int .i64 0, .int .i64 0, .int .i64 2, .int .i64 3, .int .i64 1, .int .i64 0, .int .i64 0] 43))
  replace nT := blk_alloc nT (.cells #[.int .i64 0, .int .i64 1, .int .i64 1, .int .i64 0, .int .i64 0, .int .i64 1, .int .i64 2, .int .i64 1, .int .i64 0, .int .i64 0, .int .i64 2, .int .i64 3, .int .i64 1, .int .i64 0, .int .i64 0] 43)
  replace R1 := R1.below ((Below.refl _ _).alloc (Nat.le_refl _) (.cells #[.int .i64 0, .int .i64 1, .int .i64 1, .int .i64 0, .int .i64 0, .int .i64 1, .int .i64 2, .int .i64 1, .int .i64 0, .int .i64 0, .int .i64 2, .int .i64 3, .int .i64 1, .int .i64 0, .int .i64 0] 43)) (Nat.le_refl _)
  replace R2 := R2.below ((Below.refl _ _).alloc (Nat.le_refl _) (.cells #[.int .i64 0, .int .i64 1, .int .i64 1, .int .i64 0, .int .i64 0, .int .i64 1, .int .i64 2, .int .i64 1, .int .i64 0, .int .i64 0, .int .i64 2, .int .i64 3, .int .i64 1, .int .i64 0, .int .i64 0] 43)) (Nat.le_refl _)
  replace hB := hB.alloc hB.size (.cells #[.int .i64 0, .int .i64 1, .int .i64 1, .int .i64 0, .int .i64 0, .int .i64 1, .int .i64 2, .int .i64 1, .int .i64 0, .int .i64 0, .int .i64 2, .int .i64 3, .int .i64 1, .int .i64 0, .int .i64 0] 43)
  rw [World.size_alloc] at M
  go_wp2_with fail
  refine (resolve_any (some ⟨w7.heap.size, 0, none⟩) w7.heap.size 0 1 1 mT (some ⟨w7.heap.size + 1, 0, none⟩) (w7.heap.size + 1) 0 3 3 k8 _ T (by omega) (fun _ => ⟨_, _, _, nT⟩) M (by omega) (fun h => by cases h)).mono ?_; rintro e w8 ⟨hR, hb⟩
  obtain ⟨vX, rfl, hO⟩ := res_get hR ek8 rk8
  obtain ⟨aX, bX, qX, rfl, X, -, -, -⟩ := hO.s
  clear hR hO T nT M
  replace R1 := R1.below hb (Nat.le_refl _)
  replace R2 := R2.below hb (Nat.le_refl _)
  replace hB := below_after hB hb hB.size
  clear hb
  go_wp2_with fail
  refine (cvalues_any none 0 0 0 0 k0 (0) (-1) _ (k0_ks _) (by omega) (fun _ => rfl) (by omega)).mono ?_; rintro e w9 ⟨hR, hb⟩
  obtain rfl := vals_bad hR x9 (by decide)
  clear hR
  replace R1 := R1.below hb (Nat.le_refl _)
  replace R2 := R2.below hb (Nat.le_refl _)
  replace X := X.grown hb
  replace hB := below_after hB hb hB.size
  clear hb
  go_wp2_with fail
  refine (cvalues_any none 0 0 0 0 k0 (0) 65537 _ (k0_ks _) (by omega) (fun _ => rfl) (by omega)).mono ?_; rintro e w10 ⟨hR, hb⟩
  obtain rfl := vals_bad hR xa (by decide)
  clear hR
  replace R1 := R1.below hb (Nat.le_refl _)
  replace R2 := R2.below hb (Nat.le_refl _)
  replace X := X.grown hb
  replace hB := below_after hB hb hB.size
  clear hb
  have RL := Row.lit w10 #[.int .i64 0, .int .i64 0, .int .i64 33, .int .i64 66, .int .i64 100, .int .i64 100] [0, 0, 33, 66, 100, 100] 6 rfl rfl
  replace R1 := R1.below ((Below.refl _ _).alloc (Nat.le_refl _) (.cells #[.int .i64 0, .int .i64 0, .int .i64 33, .int .i64 66, .int .i64 100, .int .i64 100] 3)) (Nat.le_refl _)
  replace R2 := R2.below ((Below.refl _ _).alloc (Nat.le_refl _) (.cells #[.int .i64 0, .int .i64 0, .int .i64 33, .int .i64 66, .int .i64 100, .int .i64 100] 3)) (Nat.le_refl _)
  replace X := X.grown ((Below.refl _ _).alloc (Nat.le_refl _) (.cells #[.int .i64 0, .int .i64 0, .int .i64 33, .int .i64 66, .int .i64 100, .int .i64 100] 3))
  replace hB := hB.alloc hB.size (.cells #[.int .i64 0, .int .i64 0, .int .i64 33, .int .i64 66, .int .i64 100, .int .i64 100] 3)
  go_wp2_with fail
  refine (rsameInts_any _ _ _ _ _ _ _ 6 _ _ _ [0, 0, 33, 66, 100, 100] _ R1 RL (by simp) rfl).mono ?_; rintro e w11 ⟨rfl, hb⟩
  clear RL R1
  replace R2 := R2.below hb (Nat.le_refl _)
  replace X := X.grown hb
  replace hB := below_after hB hb hB.size
  clear hb
  have RL := Row.lit w11 #[.int .i64 1, .int .i64 9] [1, 9] 2 rfl rfl
  replace R2 := R2.below ((Below.refl _ _).alloc (Nat.le_refl _) (.cells #[.int .i64 1, .int .i64 9] 3)) (Nat.le_refl _)
  replace X := X.grown ((Below.refl _ _).alloc (Nat.le_refl _) (.cells #[.int .i64 1, .int .i64 9] 3))
  replace hB := hB.alloc hB.size (.cells #[.int .i64 1, .int .i64 9] 3)
  go_wp2_with fail
  refine (rsameInts_any _ _ _ _ _ _ _ 2 _ _ _ [1, 9] _ R2 RL (by simp) rfl).mono ?_; rintro e w12 ⟨rfl, hb⟩
  clear RL R2
  replace X := X.grown hb
  replace hB := below_after hB hb hB.size
  clear hb
  have M := Ks.lit w12 #[.int .i64 0, .int .i64 2, .int .i64 1, .int .i64 0, .int .i64 0, .int .i64 1, .int .i64 3, .int .i64 1, .int .i64 0, .int .i64 0] k9 2 rfl (fun i hi => by rcases (show i = 0 ∨ i = 1 by omega) with rfl | rfl <;> exact ⟨rfl, rfl, rfl, rfl, rfl⟩)
  replace X := X.grown ((Below.refl _ _).alloc (Nat.le_refl _) (.cells #[.int .i64 0, .int .i64 2, .int .i64 1, .int .i64 0, .int .i64 0, .int .i64 1, .int .i64 3, .int .i64 1, .int .i64 0, .int .i64 0] 43))
  replace hB := hB.alloc hB.size (.cells #[.int .i64 0, .int .i64 2, .int .i64 1, .int .i64 0, .int .i64 0, .int .i64 1, .int .i64 3, .int .i64 1, .int .i64 0, .int .i64 0] 43)
  go_wp2_with fail
  refine (rsameK_any _ _ _ _ _ _ _ 2 _ _ _ k9 _ X M (by decide) rfl).mono ?_; rintro e w13 ⟨rfl, hb⟩
  clear M X
  replace hB := below_after hB hb hB.size
  clear hb
  go_wp2_with fail
  refine (ccheck_any none 0 0 0 0 k0 _ (k0_ks _) (by omega) (fun _ => rfl) (by omega)).mono ?_; rintro e w14 ⟨rfl, hb⟩; rw [chkC_yes ck0]
  replace hB := below_after hB hb hB.size
  clear hb
  have M := Ks.lit w14 #[.int .i64 0, .int .i64 0, .int .i64 0, .int .i64 0, .int .i64 0] kz 1 rfl (fun i hi => by rcases (show i = 0 by omega) with rfl <;> exact ⟨rfl, rfl, rfl, rfl, rfl⟩)
  replace hB := hB.alloc hB.size (.cells #[.int .i64 0, .int .i64 0, .int .i64 0, .int .i64 0, .int .i64 0] 43)
  go_wp2_with fail
  refine (ccheck_any (some ⟨w14.heap.size, 0, none⟩) w14.heap.size 0 1 1 kz _ M (by omega) (fun h => by cases h) (by omega)).mono ?_; rintro e w15 ⟨rfl, hb⟩; rw [chkC_no ckz]
  replace hB := below_after hB hb hB.size
  clear hb
  go_wp2
  go_ret
  exact ⟨rfl, hB⟩
end Go.Proofs.Ytafffmcmdhbghaa
