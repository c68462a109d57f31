/- The reference's Valid, Less, Check, Find and differ (layer 42). -/
import Derived.Test.YthnhnmmabjmjgaaCalCnt
namespace Go.Proofs.Ythnhnmmabjmjgaa
open Go.ChangeShapes Go.WideShapes Go.ChangeAt Go.RowKit Go.Sort Go.Shelf

set_option maxRecDepth 100000 in
set_option maxHeartbeats 4000000 in
theorem rvalid_any (m : Rt) (w : World) : Calls Try.prog 51 #[vR m] w fun e w' => e = .returned (.bool (decide (okR m))) ∧ Below w.heap.size w w' := by
  obtain ⟨a, b, c, d, e⟩ := m
  dsimp only [vR]
  by_cases q0 : 0 ≤ a
  case neg =>
    have v0 := decide_eq_false q0
    have E := Lib.hid (show decide (okR (a, b, c, d, e)) = false from decide_eq_false fun h => q0 (h.1.1))
    clear q0
    go_enter Try.func51, Try.ntmps51
    go_wp2
    go_ret
    exact ⟨ret_bool E.out.symm, by go_grown⟩
  by_cases q1 : a < 16
  case neg =>
    have v0 := decide_eq_true q0
    have v1 := decide_eq_false q1
    have E := Lib.hid (show decide (okR (a, b, c, d, e)) = false from decide_eq_false fun h => q1 (by have := h.1.2; dsimp only at this; omega))
    clear q0 q1
    go_enter Try.func51, Try.ntmps51
    go_wp2
    go_ret
    exact ⟨ret_bool E.out.symm, by go_grown⟩
  by_cases q2 : 0 ≤ b
  case neg =>
    have v0 := decide_eq_true q0
    have v1 := decide_eq_true q1
    have v2 := decide_eq_false q2
    have E := Lib.hid (show decide (okR (a, b, c, d, e)) = false from decide_eq_false fun h => q2 (h.2.1.1))
    clear q0 q1 q2
    go_enter Try.func51, Try.ntmps51
    go_wp2
    go_ret
    exact ⟨ret_bool E.out.symm, by go_grown⟩
  by_cases q3 : b ≤ 1099511627776
  case neg =>
    have v0 := decide_eq_true q0
    have v1 := decide_eq_true q1
    have v2 := decide_eq_true q2
    have v3 := decide_eq_false q3
    have E := Lib.hid (show decide (okR (a, b, c, d, e)) = false from decide_eq_false fun h => q3 (h.2.1.2))
    clear q0 q1 q2 q3
    go_enter Try.func51, Try.ntmps51
    go_wp2
    go_ret
    exact ⟨ret_bool E.out.symm, by go_grown⟩
  by_cases q4 : 1 ≤ c
  case neg =>
    have v0 := decide_eq_true q0
    have v1 := decide_eq_true q1
    have v2 := decide_eq_true q2
    have v3 := decide_eq_true q3
    have v4 := decide_eq_false q4
    have E := Lib.hid (show decide (okR (a, b, c, d, e)) = false from decide_eq_false fun h => q4 (h.2.2.1.1))
    clear q0 q1 q2 q3 q4
    go_enter Try.func51, Try.ntmps51
    go_wp2
    go_ret
    exact ⟨ret_bool E.out.symm, by go_grown⟩
  by_cases q5 : c ≤ 16777216
  case neg =>
    have v0 := decide_eq_true q0
    have v1 := decide_eq_true q1
    have v2 := decide_eq_true q2
    have v3 := decide_eq_true q3
    have v4 := decide_eq_true q4
    have v5 := decide_eq_false q5
    have E := Lib.hid (show decide (okR (a, b, c, d, e)) = false from decide_eq_false fun h => q5 (h.2.2.1.2))
    clear q0 q1 q2 q3 q4 q5
    go_enter Try.func51, Try.ntmps51
    go_wp2
    go_ret
    exact ⟨ret_bool E.out.symm, by go_grown⟩
  by_cases q6 : 0 ≤ d
  case neg =>
    have v0 := decide_eq_true q0
    have v1 := decide_eq_true q1
    have v2 := decide_eq_true q2
    have v3 := decide_eq_true q3
    have v4 := decide_eq_true q4
    have v5 := decide_eq_true q5
    have v6 := decide_eq_false q6
    have E := Lib.hid (show decide (okR (a, b, c, d, e)) = false from decide_eq_false fun h => q6 (h.2.2.2.1.1))
    clear q0 q1 q2 q3 q4 q5 q6
    go_enter Try.func51, Try.ntmps51
    go_wp2
    go_ret
    exact ⟨ret_bool E.out.symm, by go_grown⟩
  by_cases q7 : d ≤ 1048576
  case neg =>
    have v0 := decide_eq_true q0
    have v1 := decide_eq_true q1
    have v2 := decide_eq_true q2
    have v3 := decide_eq_true q3
    have v4 := decide_eq_true q4
    have v5 := decide_eq_true q5
    have v6 := decide_eq_true q6
    have v7 := decide_eq_false q7
    have E := Lib.hid (show decide (okR (a, b, c, d, e)) = false from decide_eq_false fun h => q7 (h.2.2.2.1.2))
    clear q0 q1 q2 q3 q4 q5 q6 q7
    go_enter Try.func51, Try.ntmps51
    go_wp2
    go_ret
    exact ⟨ret_bool E.out.symm, by go_grown⟩
  by_cases q8 : 0 ≤ e
  case neg =>
    have v0 := decide_eq_true q0
    have v1 := decide_eq_true q1
    have v2 := decide_eq_true q2
    have v3 := decide_eq_true q3
    have v4 := decide_eq_true q4
    have v5 := decide_eq_true q5
    have v6 := decide_eq_true q6
    have v7 := decide_eq_true q7
    have v8 := decide_eq_false q8
    have E := Lib.hid (show decide (okR (a, b, c, d, e)) = false from decide_eq_false fun h => q8 (h.2.2.2.2.1))
    clear q0 q1 q2 q3 q4 q5 q6 q7 q8
    go_enter Try.func51, Try.ntmps51
    go_wp2
    go_ret
    exact ⟨ret_bool E.out.symm, by go_grown⟩
  by_cases q9 : e ≤ 1048576
  case neg =>
    have v0 := decide_eq_true q0
    have v1 := decide_eq_true q1
    have v2 := decide_eq_true q2
    have v3 := decide_eq_true q3
    have v4 := decide_eq_true q4
    have v5 := decide_eq_true q5
    have v6 := decide_eq_true q6
    have v7 := decide_eq_true q7
    have v8 := decide_eq_true q8
    have v9 := decide_eq_false q9
    have E := Lib.hid (show decide (okR (a, b, c, d, e)) = false from decide_eq_false fun h => q9 (h.2.2.2.2.2))
    clear q0 q1 q2 q3 q4 q5 q6 q7 q8 q9
    go_enter Try.func51, Try.ntmps51
    go_wp2
    go_ret
    exact ⟨ret_bool E.out.symm, by go_grown⟩
  have v0 := decide_eq_true q0
  have v1 := decide_eq_true q1
  have v2 := decide_eq_true q2
  have v3 := decide_eq_true q3
  have v4 := decide_eq_true q4
  have v5 := decide_eq_true q5
  have v6 := decide_eq_true q6
  have v7 := decide_eq_true q7
  have v8 := decide_eq_true q8
  have v9 := decide_eq_true q9
  have E := Lib.hid (show decide (okR (a, b, c, d, e)) = true from decide_eq_true ⟨⟨q0, by dsimp only; omega⟩, ⟨q2, q3⟩, ⟨q4, q5⟩, ⟨q6, q7⟩, q8, q9⟩)
  clear q0 q1 q2 q3 q4 q5 q6 q7 q8 q9
  go_enter Try.func51, Try.ntmps51
  go_wp2
  go_ret
  exact ⟨ret_bool E.out.symm, by go_grown⟩
theorem rvalid_t (m : Rt) (w : World) (h : okR m) : Calls Try.prog 51 #[vR m] w fun e w' => e = .returned (.bool true) ∧ Below w.heap.size w w' := by
  have := rvalid_any m w; rwa [decide_eq_true h] at this
theorem rvalid_f (m : Rt) (w : World) (h : ¬ okR m) : Calls Try.prog 51 #[vR m] w fun e w' => e = .returned (.bool false) ∧ Below w.heap.size w w' := by
  have := rvalid_any m w; rwa [decide_eq_false h] at this

instance (x y : K3) : Decidable (ltK x y) := by unfold ltK; exact inferInstance
set_option maxRecDepth 100000 in
set_option maxHeartbeats 4000000 in
theorem rless_any (x y : Rt) (w : World) : Calls Try.prog 52 #[vR x, vR y] w fun e w' => e = .returned (.bool (decide (ltK (ky x) (ky y)))) ∧ Below w.heap.size w w' := by
  obtain ⟨a, b, c, d, e⟩ := x
  obtain ⟨a', b', c', d', e'⟩ := y
  dsimp only [vR, ky]
  by_cases q0 : a = a'
  case neg =>
    have z0 : (a != a') = true := by simpa using q0
    have E := Lib.hid (show decide (ltK (a, b, c) (a', b', c')) = decide (a < a') from decide_eq_decide.2 (by unfold ltK; dsimp only; omega))
    clear q0
    go_enter Try.func52, Try.ntmps52
    go_wp2
    go_ret
    exact ⟨ret_bool E.out.symm, by go_grown⟩
  have z0 : (a != a') = false := by simpa using q0
  by_cases q1 : b = b'
  case neg =>
    have z1 : (b != b') = true := by simpa using q1
    have E := Lib.hid (show decide (ltK (a, b, c) (a', b', c')) = decide (b < b') from decide_eq_decide.2 (by unfold ltK; dsimp only; omega))
    clear q0 q1
    go_enter Try.func52, Try.ntmps52
    go_wp2
    go_ret
    exact ⟨ret_bool E.out.symm, by go_grown⟩
  have z1 : (b != b') = false := by simpa using q1
  have E := Lib.hid (show decide (ltK (a, b, c) (a', b', c')) = decide (c < c') from decide_eq_decide.2 (by unfold ltK; dsimp only; omega))
  clear q0 q1
  go_enter Try.func52, Try.ntmps52
  go_wp2
  go_ret
  exact ⟨ret_bool E.out.symm, by go_grown⟩
theorem rless_t (x y : Rt) (w : World) (h : ltK (ky x) (ky y)) : Calls Try.prog 52 #[vR x, vR y] w fun e w' => e = .returned (.bool true) ∧ Below w.heap.size w w' := by
  have := rless_any x y w; rwa [decide_eq_true h] at this
theorem rless_f (x y : Rt) (w : World) (h : ¬ ltK (ky x) (ky y)) : Calls Try.prog 52 #[vR x, vR y] w fun e w' => e = .returned (.bool false) ∧ Below w.heap.size w w' := by
  have := rless_any x y w; rwa [decide_eq_false h] at this

/-- The record that counts. -/
def fnd (l : List Rt) (d p k : Int) : Nat → Rt × Bool
  | 0 => ((0, 0, 0, 0, 0), false)
  | n + 1 => if mat d p k (nthR l n) then (nthR l n, true) else fnd l d p k n
theorem fnd_yes {l : List Rt} {d p k : Int} {n : Nat} (h : mat d p k (nthR l n)) : fnd l d p k (n + 1) = (nthR l n, true) := if_pos h
theorem fnd_no {l : List Rt} {d p k : Int} {n : Nat} (h : ¬ mat d p k (nthR l n)) : fnd l d p k (n + 1) = fnd l d p k n := if_neg h
theorem fnd_cnt (l : List Rt) (d p k : Int) (n : Nat) : cnt l d p k n = ((fnd l d p k n).1.2.2.2.1, (fnd l d p k n).1.2.2.2.2, (fnd l d p k n).2) := by
  induction n with
  | zero => rfl
  | succ n ih =>
    by_cases h : mat d p k (nthR l n)
    · rw [cnt_yes h, fnd_yes h]
    · rw [cnt_no h, fnd_no h, ih]
abbrev cR (m : Rt) : Array Value := #[.int .i64 m.1, .int .i64 m.2.1, .int .i64 m.2.2.1, .int .i64 m.2.2.2.1, .int .i64 m.2.2.2.2]

set_option maxRecDepth 100000 in
set_option maxHeartbeats 4000000 in
theorem find_any (a : Option Addr) (n cap b off : Nat) (l : List Rt) (d p k : Int) (w : World) (h : Rs w a n b off l) (hn : n ≤ 9223372036854775807) :
    Calls Try.prog 40 #[.slice a n cap, .int .i64 d, .int .i64 p, .int .i64 k] w fun e w' => e = .returned (.tuple #[vR (fnd l d p k l.length).1, .bool (fnd l d p k l.length).2]) ∧ Below w.heap.size w w' := by
  have HM := Lib.hid (show _ ∧ _ ∧ _ from ⟨h, h.1, h.2.1⟩)
  clear h
  obtain ⟨W, hW⟩ : ∃ W, W = (w.alloc (.cells #[.int .i64 0, .int .i64 0, .int .i64 0, .int .i64 0, .int .i64 0] 74)).alloc (.cells #[.int .i64 0, .int .i64 0, .int .i64 0, .int .i64 0, .int .i64 0] 74) := ⟨_, rfl⟩
  have h0 : W.heap[w.heap.size]? = some (.cells (cR (0, 0, 0, 0, 0)) 74 (0, 0)) := by rw [hW]; exact blk_alloc (blk_new _ _) _
  have h1 : W.heap[w.heap.size + 1]? = some (.cells (cR (0, 0, 0, 0, 0)) 74 (0, 0)) := by
    rw [hW]; have := blk_new (w.alloc (.cells #[.int .i64 0, .int .i64 0, .int .i64 0, .int .i64 0, .int .i64 0] 74)) (.cells #[.int .i64 0, .int .i64 0, .int .i64 0, .int .i64 0, .int .i64 0] 74); rwa [World.size_alloc] at this
  have H0 := Lib.hid (show _ ∧ _ ∧ _ from ⟨h0, h1, (show Below w.heap.size w W from by rw [hW]; go_grown)⟩)
  clear h0 h1
  go_enter Try.func40, Try.ntmps40
  go_wp2
  rw [← hW]
  clear hW
  go_loopw [11, 12] (fun o i wr => ∃ j : Nat, j ≤ n ∧ i = .int .i64 j ∧ o = .bool (fnd l d p k j).2 ∧ wr.heap[w.heap.size + 1]? = some (.cells (cR (fnd l d p k j).1) 74 (0, 0)) ∧ wr.heap[w.heap.size]? = some (.cells (cR (0, 0, 0, 0, 0)) 74 (0, 0)) ∧ Below w.heap.size w wr) (fun _ i _ => n - (intOf i).toNat)
  case atStart => exact ⟨0, Nat.zero_le _, rfl, rfl, H0.out.2.1, H0.out.1, H0.out.2.2⟩
  case round =>
    obtain ⟨j, hj, rfl, rfl, hbx, hb8, hb⟩ := hrel
    clear H0
    have hb0 := hb.size
    have hlw1 := (Array.getElem?_eq_some_iff.1 hbx).1
    by_cases hlt : j < n
    case neg =>
      obtain rfl : j = n := by omega
      have E := Lib.hid HM.out.2.1
      generalize hx : fnd l d p k j = x at *
      obtain ⟨⟨x0, x1, x2, x3, x4⟩, x5⟩ := x
      have c0 : wr.cell? ⟨w.heap.size + 1, 0, none⟩ = some (.int .i64 x0) := blk_cell hbx 0
      have c1 : wr.cell? ⟨w.heap.size + 1, 1, none⟩ = some (.int .i64 x1) := blk_cell hbx 1
      have c2 : wr.cell? ⟨w.heap.size + 1, 2, none⟩ = some (.int .i64 x2) := blk_cell hbx 2
      have c3 : wr.cell? ⟨w.heap.size + 1, 3, none⟩ = some (.int .i64 x3) := blk_cell hbx 3
      have c4 : wr.cell? ⟨w.heap.size + 1, 4, none⟩ = some (.int .i64 x4) := blk_cell hbx 4
      have d0 := blk_cell hb8 0; have d1 := blk_cell hb8 1; have d2 := blk_cell hb8 2; have d3 := blk_cell hb8 3; have d4 := blk_cell hb8 4
      have f0 := blk_free hb8 0; have f1 := blk_free hb8 1; have f2 := blk_free hb8 2; have f3 := blk_free hb8 3; have f4 := blk_free hb8 4
      simp at d0 d1 d2 d3 d4
      have HX := Lib.hid (show _ ∧ _ ∧ _ from ⟨hx, hb8, hb⟩)
      clear hx hbx hb8 hb
      go_wp2
      have h4 := boxR_set (u0 := .int .i64 x0) (u1 := .int .i64 x1) (u2 := .int .i64 x2) (u3 := .int .i64 x3) (u4 := .int .i64 x4) HX.out.2.1
      have hb4 := boxR_below (u0 := .int .i64 x0) (u1 := .int .i64 x1) (u2 := .int .i64 x2) (u3 := .int .i64 x3) (u4 := .int .i64 x4) (Nat.le_refl w.heap.size) HX.out.2.2
      clear d0 d1 d2 d3 d4 f0 f1 f2 f3 f4
      generalize (((((wr.setCell ⟨w.heap.size, 0, none⟩ (.int .i64 x0)).setCell ⟨w.heap.size, 1, none⟩ (.int .i64 x1)).setCell ⟨w.heap.size, 2, none⟩ (.int .i64 x2)).setCell ⟨w.heap.size, 3, none⟩ (.int .i64 x3)).setCell ⟨w.heap.size, 4, none⟩ (.int .i64 x4)) = W4 at *
      have d0 := blk_cell h4 0; have d1 := blk_cell h4 1; have d2 := blk_cell h4 2; have d3 := blk_cell h4 3; have d4 := blk_cell h4 4
      simp at d0 d1 d2 d3 d4
      exact bodyPost_ret (v := .tuple #[vR (x0, x1, x2, x3, x4), .bool x5]) (by simp [results, Try.results40, go_sem, d0, d1, d2, d3, d4]) rfl ⟨by rw [E.out, HX.out.1], hb4⟩
    obtain ⟨rfl, hbw⟩ := HM.out.2.2 (by omega)
    obtain ⟨c0, c1, c2, c3, c4⟩ := (HM.out.1.grown hb).2.2 j hlt
    have hy := fun (h : mat d p k (nthR l j)) => fnd_yes h
    have hno := fun (h : ¬ mat d p k (nthR l j)) => fnd_no h
    generalize hx : nthR l j = x at *
    obtain ⟨x0, x1, x2, x3, x4⟩ := x
    generalize hcn : fnd l d p k j = cn at *
    obtain ⟨⟨v0, v1, v2, v3, v4⟩, v5⟩ := cn
    have HX := Lib.hid (show _ ∧ _ ∧ _ ∧ _ ∧ _ from ⟨hy, hno, hbx, hb8, hb⟩)
    clear hx hy hno hcn hb8 hb
    dsimp only at c0 c1 c2 c3 c4
    by_cases q0 : x0 = d
    case neg =>
      have N := Lib.hid (HX.out.2.1 (fun g => q0 g.1))
      have z0 : (x0 == d) = false := by simpa using q0
      clear q0 hbx
      go_wp2
      go_roundw
      case rel => exact ⟨j + 1, by omega, by go_num, by rw [N.out], by rw [N.out]; exact HX.out.2.2.1, HX.out.2.2.2.1, HX.out.2.2.2.2⟩
      case measure => simp [intOf]; omega
    have z0 : (x0 == d) = true := by simpa using q0
    by_cases q1 : x1 ≤ p
    case neg =>
      have N := Lib.hid (HX.out.2.1 (fun g => q1 g.2.1))
      have z1 : decide (x1 ≤ p) = false := decide_eq_false q1
      clear q0 q1 hbx
      go_wp2
      go_roundw
      case rel => exact ⟨j + 1, by omega, by go_num, by rw [N.out], by rw [N.out]; exact HX.out.2.2.1, HX.out.2.2.2.1, HX.out.2.2.2.2⟩
      case measure => simp [intOf]; omega
    have z1 : decide (x1 ≤ p) = true := decide_eq_true q1
    by_cases q2 : x2 ≤ k
    case neg =>
      have N := Lib.hid (HX.out.2.1 (fun g => q2 g.2.2))
      have z2 : decide (x2 ≤ k) = false := decide_eq_false q2
      clear q0 q1 q2 hbx
      go_wp2
      go_roundw
      case rel => exact ⟨j + 1, by omega, by go_num, by rw [N.out], by rw [N.out]; exact HX.out.2.2.1, HX.out.2.2.2.1, HX.out.2.2.2.2⟩
      case measure => simp [intOf]; omega
    have z2 : decide (x2 ≤ k) = true := decide_eq_true q2
    have N := Lib.hid (HX.out.1 ⟨q0, q1, q2⟩)
    clear q0 q1 q2
    have f0 := blk_free hbx 0; have f1 := blk_free hbx 1; have f2 := blk_free hbx 2; have f3 := blk_free hbx 3; have f4 := blk_free hbx 4
    have d0 : wr.cell? ⟨w.heap.size + 1, 0, none⟩ = some (.int .i64 v0) := blk_cell hbx 0
    have d1 : wr.cell? ⟨w.heap.size + 1, 1, none⟩ = some (.int .i64 v1) := blk_cell hbx 1
    have d2 : wr.cell? ⟨w.heap.size + 1, 2, none⟩ = some (.int .i64 v2) := blk_cell hbx 2
    have d3 : wr.cell? ⟨w.heap.size + 1, 3, none⟩ = some (.int .i64 v3) := blk_cell hbx 3
    have d4 : wr.cell? ⟨w.heap.size + 1, 4, none⟩ = some (.int .i64 v4) := blk_cell hbx 4
    clear hbx
    go_wp2
    have h4 := boxR_set (u0 := .int .i64 x0) (u1 := .int .i64 x1) (u2 := .int .i64 x2) (u3 := .int .i64 x3) (u4 := .int .i64 x4) HX.out.2.2.1
    have h8 := boxR_far (b := w.heap.size + 1) (u0 := .int .i64 x0) (u1 := .int .i64 x1) (u2 := .int .i64 x2) (u3 := .int .i64 x3) (u4 := .int .i64 x4) (show w.heap.size ≠ w.heap.size + 1 by omega) HX.out.2.2.2.1
    have hb4 := boxR_below (b := w.heap.size + 1) (u0 := .int .i64 x0) (u1 := .int .i64 x1) (u2 := .int .i64 x2) (u3 := .int .i64 x3) (u4 := .int .i64 x4) (show w.heap.size ≤ w.heap.size + 1 by omega) HX.out.2.2.2.2
    have H4 := Lib.hid (show _ ∧ _ ∧ _ from ⟨h4, h8, hb4⟩)
    clear h4 h8 hb4 d0 d1 d2 d3 d4 f0 f1 f2 f3 f4
    go_roundw
    case rel => exact ⟨j + 1, by omega, by go_num, by rw [N.out], by rw [N.out]; exact H4.out.1, H4.out.2.1, H4.out.2.2⟩
    case measure => simp [intOf]; omega
end Go.Proofs.Ythnhnmmabjmjgaa
