/- The contracts of counts and At (layer 42). -/
import Derived.Test.YthnhnmmabjmjgaaCalChk
import Derived.Test.YthnhnmmabjmjgaaSY
import Derived.Deep.Cut
namespace Go.Proofs.Ythnhnmmabjmjgaa
open Go.ChangeShapes Go.WideShapes Go.ChangeAt Go.RowKit Go.Sort Go.Shelf

abbrev Cn := Int × Int × Bool
/-- Does a record count? -/
def mat (d p k : Int) (m : Rt) : Prop := m.1 = d ∧ m.2.1 ≤ p ∧ m.2.2.1 ≤ k
instance (d p k : Int) (m : Rt) : Decidable (mat d p k m) := by unfold mat; exact inferInstance
def cnt (l : List Rt) (d p k : Int) : Nat → Cn
  | 0 => (0, 0, false)
  | n + 1 => if mat d p k (nthR l n) then ((nthR l n).2.2.2.1, (nthR l n).2.2.2.2, true) else cnt l d p k n
theorem cnt_yes {l : List Rt} {d p k : Int} {n : Nat} (h : mat d p k (nthR l n)) : cnt l d p k (n + 1) = ((nthR l n).2.2.2.1, (nthR l n).2.2.2.2, true) := if_pos h
theorem cnt_no {l : List Rt} {d p k : Int} {n : Nat} (h : ¬ mat d p k (nthR l n)) : cnt l d p k (n + 1) = cnt l d p k n := if_neg h
abbrev vC (x : Cn) : Value := .agg #[.int .i64 x.1, .int .i64 x.2.1, .bool x.2.2]
abbrev cC (x : Cn) : Array Value := #[.int .i64 x.1, .int .i64 x.2.1, .bool x.2.2]

set_option maxRecDepth 100000 in
set_option maxHeartbeats 4000000 in
theorem counts_any (a : Option Addr) (n cap b off : Nat) (l : List Rt) (d p k : Int) (w : World) (h : Rs w a n b off l) (hn : n ≤ 9223372036854775807) :
    Calls Try.prog 32 #[.slice a n cap, .int .i64 d, .int .i64 p, .int .i64 k] w fun e w' => e = .returned (vC (cnt l d p k l.length)) ∧ Below w.heap.size w w' := by
  have HM := Lib.hid (show _ ∧ _ ∧ _ from ⟨h, h.1, h.2.1⟩)
  clear h
  go_enter Try.func32, Try.ntmps32
  go_wp2
  go_loopw [13] (fun i wr => ∃ j : Nat, j ≤ n ∧ i = .int .i64 j ∧ wr.heap[w.heap.size]? = some (.cells (cC (cnt l d p k j)) 83 (0, 0)) ∧ Below w.heap.size w wr) (fun i _ => n - (intOf i).toNat)
  case atStart => exact ⟨0, Nat.zero_le _, rfl, blk_new _ _, by go_grown⟩
  case round =>
    obtain ⟨j, hj, rfl, hbx, hb⟩ := hrel
    by_cases hlt : j < n
    case neg =>
      obtain rfl : j = n := by omega
      have E := Lib.hid HM.out.2.1
      have d0 := blk_cell hbx 0; have d1 := blk_cell hbx 1; have d2 := blk_cell hbx 2
      have f0 := blk_free hbx 0; have f1 := blk_free hbx 1; have f2 := blk_free hbx 2
      simp at d0 d1 d2
      generalize hx : cnt l d p k j = x at *
      obtain ⟨x0, x1, x2⟩ := x
      dsimp only at d0 d1 d2
      have HX := Lib.hid (show _ ∧ _ ∧ _ from ⟨hx, hbx, hb⟩)
      clear hx hbx hb
      go_wp2
      have h4 := boxY_set (u0 := .int .i64 x0) (u1 := .int .i64 x1) (u2 := .bool x2) HX.out.2.1
      have hb4 := boxY_below (u0 := .int .i64 x0) (u1 := .int .i64 x1) (u2 := .bool x2) (Nat.le_refl w.heap.size) HX.out.2.2
      clear d0 d1 d2 f0 f1 f2
      generalize (((wr.setCell ⟨w.heap.size, 0, none⟩ (.int .i64 x0)).setCell ⟨w.heap.size, 1, none⟩ (.int .i64 x1)).setCell ⟨w.heap.size, 2, none⟩ (.bool x2)) = W4 at *
      have d0 := blk_cell h4 0; have d1 := blk_cell h4 1; have d2 := blk_cell h4 2
      simp at d0 d1 d2
      exact bodyPost_ret (v := vC (x0, x1, x2)) (by simp [results, Try.results32, go_sem, d0, d1, d2]) rfl ⟨by rw [E.out, HX.out.1], hb4⟩
    obtain ⟨rfl, hbw⟩ := HM.out.2.2 (by omega)
    obtain ⟨c0, c1, c2, c3, c4⟩ := (HM.out.1.grown hb).2.2 j hlt
    have hy := fun (h : mat d p k (nthR l j)) => cnt_yes h
    have hno := fun (h : ¬ mat d p k (nthR l j)) => cnt_no h
    generalize hx : nthR l j = x at *
    obtain ⟨x0, x1, x2, x3, x4⟩ := x
    have HX := Lib.hid (show _ ∧ _ ∧ _ ∧ _ from ⟨hy, hno, hbx, hb⟩)
    have hb0 := hb.size
    have hlw := (Array.getElem?_eq_some_iff.1 hbx).1
    clear hx hy hno
    dsimp only at c0 c1 c2 c3 c4
    by_cases q0 : x0 = d
    case neg =>
      have N := Lib.hid (HX.out.2.1 (fun g => q0 g.1))
      have z0 : (x0 == d) = false := by simpa using q0
      have y0 : decide (x0 = d) = false := decide_eq_false q0
      clear hbx hb q0
      go_wp2
      go_roundw
      case rel => exact ⟨j + 1, by omega, by go_num, by rw [N.out]; exact blk_alloc HX.out.2.2.1 _, HX.out.2.2.2.alloc hb0 _⟩
      case measure => simp [intOf]; omega
    have z0 : (x0 == d) = true := by simpa using q0
    have y0 : decide (x0 = d) = true := decide_eq_true q0
    by_cases q1 : x1 ≤ p
    case neg =>
      have N := Lib.hid (HX.out.2.1 (fun g => q1 g.2.1))
      have z1 : decide (x1 ≤ p) = false := decide_eq_false q1
      clear hbx hb q0 q1
      go_wp2
      go_roundw
      case rel => exact ⟨j + 1, by omega, by go_num, by rw [N.out]; exact blk_alloc HX.out.2.2.1 _, HX.out.2.2.2.alloc hb0 _⟩
      case measure => simp [intOf]; omega
    have z1 : decide (x1 ≤ p) = true := decide_eq_true q1
    by_cases q2 : x2 ≤ k
    case neg =>
      have N := Lib.hid (HX.out.2.1 (fun g => q2 g.2.2))
      have z2 : decide (x2 ≤ k) = false := decide_eq_false q2
      clear hbx hb q0 q1 q2
      go_wp2
      go_roundw
      case rel => exact ⟨j + 1, by omega, by go_num, by rw [N.out]; exact blk_alloc HX.out.2.2.1 _, HX.out.2.2.2.alloc hb0 _⟩
      case measure => simp [intOf]; omega
    have z2 : decide (x2 ≤ k) = true := decide_eq_true q2
    have N := Lib.hid (HX.out.1 ⟨q0, q1, q2⟩)
    clear q0 q1 q2 hb
    have g1 := blk_alloc hbx (.cells #[.int .i64 x0, .int .i64 x1, .int .i64 x2, .int .i64 x3, .int .i64 x4] 74)
    have f0 := blk_free hbx 0; have f1 := blk_free hbx 1; have f2 := blk_free hbx 2
    generalize hcn : cnt l d p k j = cn at *
    obtain ⟨v0, v1, v2⟩ := cn
    have d0 : wr.cell? ⟨w.heap.size, 0, none⟩ = some (.int .i64 v0) := blk_cell hbx 0
    have d1 : wr.cell? ⟨w.heap.size, 1, none⟩ = some (.int .i64 v1) := blk_cell hbx 1
    have d2 : wr.cell? ⟨w.heap.size, 2, none⟩ = some (.bool v2) := blk_cell hbx 2
    have HG := Lib.hid (show _ ∧ _ from ⟨g1, HX.out.2.2.2.alloc hb0 (.cells #[.int .i64 x0, .int .i64 x1, .int .i64 x2, .int .i64 x3, .int .i64 x4] 74)⟩)
    clear hbx g1 hcn
    go_wp2
    have h4 := blk_alloc (boxY_set (u0 := .int .i64 x3) (u1 := .int .i64 x4) (u2 := .bool true) HX.out.2.2.1) (.cells #[.int .i64 x0, .int .i64 x1, .int .i64 x2, .int .i64 x3, .int .i64 x4] 74)
    have hb4 := (boxY_below (u0 := .int .i64 x3) (u1 := .int .i64 x4) (u2 := .bool true) (Nat.le_refl w.heap.size) HX.out.2.2.2).alloc (by simp; omega) (.cells #[.int .i64 x0, .int .i64 x1, .int .i64 x2, .int .i64 x3, .int .i64 x4] 74)
    have H4 := Lib.hid (show _ ∧ _ from ⟨h4, hb4⟩)
    clear h4 hb4 d0 d1 d2 f0 f1 f2
    go_roundw
    case rel => exact ⟨j + 1, by omega, by go_num, by rw [N.out]; exact H4.out.1, H4.out.2⟩
    case measure => simp [intOf]; omega

def argOk (d p k : Int) : Prop := (0 ≤ d ∧ d ≤ 15) ∧ (0 ≤ p ∧ p ≤ 1099511627776) ∧ (0 ≤ k ∧ k ≤ 16777216)
abbrev At4 := Int × Int × Bool × Int
noncomputable def atV (l : List Rt) (d p k : Int) : At4 := by classical exact if Recs l then (if argOk d p k then ((cnt l d p k l.length).1, (cnt l d p k l.length).2.1, (cnt l d p k l.length).2.2, 0) else (0, 0, false, 1)) else (0, 0, false, chkR l)
theorem atV_no {l : List Rt} {d p k : Int} (h : ¬ Recs l) : atV l d p k = (0, 0, false, chkR l) := if_neg h
theorem atV_bad {l : List Rt} {d p k : Int} (h : Recs l) (h2 : ¬ argOk d p k) : atV l d p k = (0, 0, false, 1) := by unfold atV; rw [if_pos h, if_neg h2]
theorem atV_yes {l : List Rt} {d p k : Int} (h : Recs l) (h2 : argOk d p k) : atV l d p k = ((cnt l d p k l.length).1, (cnt l d p k l.length).2.1, (cnt l d p k l.length).2.2, 0) := by unfold atV; rw [if_pos h, if_pos h2]
abbrev vA (x : At4) : Value := .tuple #[.int .i64 x.1, .int .i64 x.2.1, .bool x.2.2.1, .int .i64 x.2.2.2]
theorem ret_at {x y : At4} (h : y = x) : Ending.returned (vA x) = .returned (vA y) := by rw [h]
set_option maxRecDepth 100000 in
set_option maxHeartbeats 4000000 in
theorem at_any (a : Option Addr) (n cap b off : Nat) (l : List Rt) (d p k : Int) (w : World) (h : Rs w a n b off l) (hn : n ≤ 9223372036854775807) :
    Calls Try.prog 21 #[.slice a n cap, .int .i64 d, .int .i64 p, .int .i64 k] w fun e w' => e = .returned (vA (atV l d p k)) ∧ Below w.heap.size w w' := by
  have HM := Lib.hid (show _ ∧ _ from ⟨h, h.1⟩)
  clear h
  go_enter Try.func21, Try.ntmps21
  go_wp2_with fail
  refine (check_any a n cap b off l w HM.out.1 hn).mono ?_
  rintro e W1 ⟨rfl, hb1⟩
  have H1 := Lib.hid hb1
  clear hb1
  rcases chkR_cases l with ⟨hc1, hc2⟩ | ⟨hc1, hc0, hc2⟩ | ⟨hR, hc2⟩
  · have E := Lib.hid (atV_no (d := d) (p := p) (k := k) (l := l) (fun g => by have := g.1; omega))
    have E2 := Lib.hid hc2
    rw [hc2]
    clear hc2 hc1
    go_wp2
    exact bodyPost_ret (v := vA (0, 0, false, 2)) (by simp [results, Try.results21, go_sem]) rfl ⟨ret_at (by rw [E.out, E2.out]), H1.out⟩
  · have E := Lib.hid (atV_no (d := d) (p := p) (k := k) (l := l) hc0)
    have E2 := Lib.hid hc2
    rw [hc2]
    clear hc2 hc1 hc0
    go_wp2
    exact bodyPost_ret (v := vA (0, 0, false, 420)) (by simp [results, Try.results21, go_sem]) rfl ⟨ret_at (by rw [E.out, E2.out]), H1.out⟩
  have HR := Lib.hid hR
  rw [hc2]
  clear hc2 hR
  by_cases q0 : 0 ≤ d ∧ d ≤ 15
  case neg =>
    have v0 := within_f q0
    have E := Lib.hid (atV_bad (d := d) (p := p) (k := k) HR.out (fun h => q0 h.1))
    clear q0
    go_wp2_with (first | (go_at_call 27; refine (within_any _ _ _ _).mono ?_; rintro e w' ⟨rfl, rfl⟩))
    exact bodyPost_ret (v := vA (0, 0, false, 1)) (by simp [results, Try.results21, go_sem]) rfl ⟨ret_at E.out, H1.out⟩
  by_cases q1 : 0 ≤ p ∧ p ≤ 1099511627776
  case neg =>
    have v0 := within_t q0
    have v1 := within_f q1
    have E := Lib.hid (atV_bad (d := d) (p := p) (k := k) HR.out (fun h => q1 h.2.1))
    clear q0 q1
    go_wp2_with (first | (go_at_call 27; refine (within_any _ _ _ _).mono ?_; rintro e w' ⟨rfl, rfl⟩))
    exact bodyPost_ret (v := vA (0, 0, false, 1)) (by simp [results, Try.results21, go_sem]) rfl ⟨ret_at E.out, H1.out⟩
  by_cases q2 : 0 ≤ k ∧ k ≤ 16777216
  case neg =>
    have v0 := within_t q0
    have v1 := within_t q1
    have v2 := within_f q2
    have E := Lib.hid (atV_bad (d := d) (p := p) (k := k) HR.out (fun h => q2 h.2.2))
    clear q0 q1 q2
    go_wp2_with (first | (go_at_call 27; refine (within_any _ _ _ _).mono ?_; rintro e w' ⟨rfl, rfl⟩))
    exact bodyPost_ret (v := vA (0, 0, false, 1)) (by simp [results, Try.results21, go_sem]) rfl ⟨ret_at E.out, H1.out⟩
  have v0 := within_t q0
  have v1 := within_t q1
  have v2 := within_t q2
  have E := Lib.hid (atV_yes (d := d) (p := p) (k := k) HR.out ⟨q0, q1, q2⟩)
  clear q0 q1 q2
  go_wp2_with (first | (go_at_call 27; refine (within_any _ _ _ _).mono ?_; rintro e w' ⟨rfl, rfl⟩) | (go_at_call 32; refine (counts_any a n cap b off l d p k W1 (HM.out.1.grown H1.out) hn).mono ?_; rintro e W2 ⟨rfl, hb2⟩))
  have H2 := Lib.hid (below_after H1.out hb2 H1.out.size)
  clear hb2
  generalize hx : cnt l d p k l.length = x at *
  obtain ⟨x0, x1, x2⟩ := x
  have E3 := Lib.hid (show atV l d p k = (x0, x1, x2, 0) from E.out)
  clear hx
  have g1 := blk_new W2 (.cells #[.int .i64 x0, .int .i64 x1, .bool x2] 83)
  have hB2 := H2.out.alloc H2.out.size (.cells #[.int .i64 x0, .int .i64 x1, .bool x2] 83)
  have HG := Lib.hid (show _ ∧ _ from ⟨g1, hB2⟩)
  have d0 := cell_regrown (blk_cell g1 0); have d1 := cell_regrown (blk_cell g1 1); have d2 := cell_regrown (blk_cell g1 2)
  simp at d0 d1 d2
  clear g1 hB2
  refine wp_region_quiet_below (by kernel_rfl) (by kernel_rfl) ?_
  repeat (go_big_quiet_step ((fail)))
  refine wpQuiet_nil ?_
  intro WQ hq'
  have hq := of_regrown hq'
  clear hq'
  go_wp2
  exact bodyPost_ret (v := vA (x0, x1, x2, 0)) (by simp [results, Try.results21, go_sem]) rfl ⟨ret_at E3.out, below_after HG.out.2 hq HG.out.2.size⟩
end Go.Proofs.Ythnhnmmabjmjgaa
